import Derived.Test.YtfidfeilljlbiaaGreatFrg12
import Derived.Shelf.SlIter.Collect
import Derived.Test.YtfidfeilljlbiaaGreatFrg09
import Derived.Test.YtfidfeilljlbiaaGreatFrg07
import Derived.RegionTactic
import Derived.ChangeAlike
import Derived.Test.YtfidfeilljlbiaaGreatFrg11
import Derived.Maps.AppendAt
import Derived.Deep.AppendSrc
set_option linter.unusedVariables false
set_option linter.unusedSimpArgs false
set_option maxRecDepth 100000
set_option maxHeartbeats 40000000
namespace Go.Proofs.YtfidfeilljlbiaaGreat
open Go.ChangeShapes Go.WideShapes Go.ChangeAt Go.RowKit
noncomputable def kmS (fa fb:Dt ->Option ByteArray)(hb:Dt ->Bool)(f:Dt ->Option ByteArray)(ds:List Dt):Dt ->Option ByteArray:=fun d=>if yes (d∈ds)=true then kmF fa fb hb f d else f d
section
variable {fa fb : Dt -> Option ByteArray} {hb : Dt -> Bool} {f : Dt -> Option ByteArray} {ds : List Dt} {d : Dt} {v : ByteArray}
theorem kmS_start:kmS fa fb hb f []=f:=by
 funext x;unfold kmS;rw [if_neg (by rw [yes_f (by simp)];simp)]
theorem kmS_keep (hd:fa d=some v)(hk:hb d=false \/fb d=some v):kmS fa fb hb f (ds++[d])=updF (kmS fa fb hb f ds) d (some v):=by
 funext x;unfold kmS updF;by_cases e:x=d
 ·subst e;rw [if_pos (yes_t (by simp))];have:kmF fa fb hb f x=some v:=kmF_some.2 (.inl ⟨hd,hk⟩);rw [this];simp
 ·rw [if_neg e];dsimp only;by_cases e2:x∈ds
  ·rw [if_pos (yes_t (by simp [e2])),if_pos (yes_t e2)]
  ·rw [if_neg (by rw [yes_f (by simp [e,e2])];simp),if_neg (by rw [yes_f e2];simp)]
theorem kmS_drop (hd:fa d=some v)(hn:d ∉ ds)(hk:¬(hb d=false \/fb d=some v)):kmS fa fb hb f (ds++[d])=kmS fa fb hb f ds:=by
 funext x;unfold kmS;by_cases e:x=d
 ·subst e;rw [if_pos (yes_t (by simp)),if_neg (by rw [yes_f hn];simp)];unfold kmF;rw [hd];dsimp only;rw [if_neg (by rw [yes_f hk];simp)]
 ·by_cases e2:x∈ds
  ·rw [if_pos (yes_t (by simp [e2])),if_pos (yes_t e2)]
  ·rw [if_neg (by rw [yes_f (by simp [e,e2])];simp),if_neg (by rw [yes_f e2];simp)]
theorem kmS_done (hk:KeysF fa ds):kmS fa fb hb f ds=kmF fa fb hb f:=by
 funext x;unfold kmS;by_cases e:x∈ds
 ·rw [if_pos (yes_t e)]
 ·rw [if_neg (by rw [yes_f e];simp)];have:fa x=none:=by
   cases hv:fa x with
   | none=>rfl
   | some v=>exact absurd ((hk.2 x).2 (by rw [hv];simp)) e
  unfold kmF;rw [this]
end
noncomputable def cW (J:List Lf)(z:List Ky):Nat:=(J.filter (fun x=>yes (z <+:Way x))).length
noncomputable def mW (J:List Lf)(z:List Ky):Nat:=(J.filter (fun x=>yes (Way x=z))).length
theorem sum_add (f:Ky ->Nat)(y:Ky):∀ks:List Ky,ks.Nodup ->y∈ks ->(ks.map fun u=>f u+if u=y then 1 else 0).sum=(ks.map f).sum+1
 | [],_,h=>by cases h
 | a::r,hn,h=>by
  have Ha:=List.nodup_cons.1 hn;simp only [List.map_cons,List.sum_cons];by_cases e:a=y
  ·have hz:(r.map fun u=>f u+if u=y then 1 else 0)=r.map f:=List.map_congr_left fun u hu=>by
    have:u≠y:=fun e2=>Ha.1 (by rw [e,<- e2];exact hu);rw [if_neg this];rfl
   rw [hz,if_pos e];omega
  ·have hy:y∈r:=by
    rcases List.mem_cons.1 h with h|h
    ·exact absurd h.symm e
    ·exact h
   rw [sum_add f y r Ha.2 hy,if_neg e];omega
theorem sum_same (f g:Ky ->Nat)(ks:List Ky)(h:∀u∈ks,f u=g u):(ks.map f).sum=(ks.map g).sum:=by
 rw [List.map_congr_left h]
theorem cW_sum (z:List Ky)(ks:List Ky)(hn:ks.Nodup):∀J:List Lf,(∀x∈J,∀y,z++[y] <+:Way x ->y∈ks) ->cW J z=mW J z+(ks.map fun y=>cW J (z++[y])).sum
 | [],_=>by
  have:(ks.map fun y=>cW [] (z++[y])).sum=0:=by
   have z0:∀ks:List Ky,(ks.map fun y=>cW [] (z++[y])).sum=0:=fun ks=>by
    induction ks with
    | nil=>rfl
    | cons a r ih=>simp only [List.map_cons,List.sum_cons,ih];rfl
   exact z0 ks
  rw [this];rfl
 | x::J,h=>by
  have ih:=cW_sum z ks hn J (fun u hu=>h u (List.mem_cons_of_mem _ hu));have Ha:∀(P:Lf ->Bool),((x::J).filter P).length=(J.filter P).length+if P x=true then 1 else 0:=fun P=>by
   cases hp:P x with
   | true=>simp [hp]
   | false=>simp [hp]
  have c1:cW (x::J) z=cW J z+if yes (z <+:Way x)=true then 1 else 0:=Ha _;have c2:mW (x::J) z=mW J z+if yes (Way x=z)=true then 1 else 0:=Ha _;have c3:∀y,cW (x::J) (z++[y])=cW J (z++[y])+if yes (z++[y] <+:Way x)=true then 1 else 0:=fun y=>Ha _;by_cases hp:z <+:Way x
  ·obtain⟨s,hs⟩:=hp;cases s with
   | nil=>
    have ez:Way x=z:=by rw [<- hs];simp
    have no:∀y,¬z++[y] <+:Way x:=fun y hh=>by
     have:=hh.length_le;rw [ez] at this;simp at this;omega
    rw [c1,c2,if_pos (yes_t (by rw [ez];exact List.prefix_refl _)),if_pos (yes_t ez),ih,sum_same (fun y=>cW (x::J) (z++[y])) (fun y=>cW J (z++[y])) ks (fun y _=>by rw [c3 y,if_neg (by rw [yes_f (no y)];simp)];rfl)];omega
   | cons y s=>
    have hy:z++[y] <+:Way x:=by rw [<- hs,show z++y::s=(z++[y])++s by simp];exact List.prefix_append _ _
    have ne:Way x≠z:=fun e=>by
     have:=congrArg List.length (hs.trans e);simp at this
    have only:∀u,z++[u] <+:Way x↔u=y:=fun u=>by
     constructor
     ·intro hu;obtain⟨t,ht⟩:=hu;rw [<- hs] at ht;have:[u]++t=y::s:=List.append_cancel_left (by rw [<- List.append_assoc];exact ht);injection this
     ·intro e;rw [e];exact hy
    rw [c1,c2,if_pos (yes_t ⟨y::s,hs⟩),if_neg (by rw [yes_f ne];simp),ih];have e1:(ks.map fun u=>cW (x::J) (z++[u])).sum=(ks.map fun u=>cW J (z++[u])+if u=y then 1 else 0).sum:=sum_same _ _ ks (fun u _=>by
     rw [c3 u];by_cases e:u=y
     ·rw [if_pos e,if_pos (yes_t ((only u).2 e))]
     ·rw [if_neg e,if_neg (by rw [yes_f (fun hh=>e ((only u).1 hh))];simp)])
    rw [e1,sum_add (fun u=>cW J (z++[u])) y ks hn (h x (List.mem_cons_self) y hy)];omega
  ·have ne:Way x≠z:=fun e=>hp (by rw [e];exact List.prefix_refl _);have no:∀y,¬z++[y] <+:Way x:=fun y hh=>hp (List.IsPrefix.trans (List.prefix_append _ _) hh);rw [c1,c2,if_neg (by rw [yes_f hp];simp),if_neg (by rw [yes_f ne];simp),ih,sum_same (fun y=>cW (x::J) (z++[y])) (fun y=>cW J (z++[y])) ks (fun y _=>by rw [c3 y,if_neg (by rw [yes_f (no y)];simp)];rfl)];omega
theorem cW_all (J:List Lf):cW J []=J.length:=by
 unfold cW;rw [List.filter_eq_self.2 (fun x _=>yes_t List.nil_prefix)]
open Go.Maps
section
variable {α β : Type} {w : World} {t : TypeId} {kv : α -> Value} {vo : Option β -> Value} {b c : Nat} {f : α -> Option β} {D : DataW Value}
theorem keys_of {es:List (Lit×DataW Value)}(hp:es.Pairwise (fun p q=>p.1≠q.1))(hc:∀p∈es,∃x,keyOf Tryz.prog t (kv x)=some p.1):∃xs:List α,xs.length=es.length/\ xs.Nodup/\ (∀x,x∈xs ->∃p∈es,keyOf Tryz.prog t (kv x)=some p.1)/\∀p∈es,∃x∈xs,keyOf Tryz.prog t (kv x)=some p.1:=by
 induction es with
 | nil=>exact⟨[],rfl,List.nodup_nil,fun x hx=>(by cases hx),fun p hp=>(by cases hp)⟩
 | cons p r ih=>
  have Ha:=List.pairwise_cons.1 hp;obtain⟨xs,h1,h2,h3,h4⟩:=ih Ha.2 (fun q hq=>hc q (List.mem_cons_of_mem _ hq));obtain⟨x,hx⟩:=hc p (List.mem_cons_self);refine⟨x::xs,by simp [h1],List.nodup_cons.2 ⟨fun hm=> ?_,h2⟩,fun y hy=> ?_,fun q hq=> ?_⟩
  ·obtain⟨q,hq,e⟩:=h3 x hm;rw [hx] at e;exact Ha.1 q hq (Option.some.inj e)
  ·rcases List.mem_cons.1 hy with e|e
   ·rw [e];exact⟨p,List.mem_cons_self,hx⟩
   ·obtain⟨q,hq,e2⟩:=h3 y e;exact⟨q,List.mem_cons_of_mem _ hq,e2⟩
  ·rcases List.mem_cons.1 hq with e|e
   ·rw [e];exact⟨x,List.mem_cons_self,hx⟩
   ·obtain⟨y,hy,e2⟩:=h4 q e;exact⟨y,List.mem_cons_of_mem _ hy,e2⟩
theorem FM.size (h:FM w t kv vo b c f D)(K:Keyed Tryz.prog t)(hi:∀x y,kv x=kv y ->x=y){ks:List α}(hk:KeysF f ks):Maps.size D=ks.length:=by
 obtain⟨es,rfl,hp,He⟩:=h.own.entries K;have Hb:∀p∈es,has (DataW.map es) p.1=true:=fun p Ha=>by
  rw [has_eq];exact List.any_eq_true.2 ⟨p,Ha,WideAt.sameKey_self (He p Ha)⟩
 obtain⟨xs,h1,h2,h3,h4⟩:=keys_of (t:=t) (kv:=kv) hp (fun p Ha=>h.cov p.1 (Hb p Ha));have e1:∀x,x∈xs ->x∈ks:=fun x hx=>by
  obtain⟨p,Ha,e⟩:=h3 x hx;refine(hk.2 x).2 fun hn=> ?_;have:=(h.at' x p.1 e).1;rw [Hb p Ha,hn] at this;cases this
 have sz:Maps.size (DataW.map es)=es.length:=by simp [Maps.size]
 rw [sz,<- h1];have e2:∀x,x∈ks ->x∈xs:=fun x hx=>by
  obtain⟨kl,Hc⟩:=h.ok x ((hk.2 x).1 hx);have hh:=(h.at' x kl Hc).1;have hs:(f x).isSome=true:=by
   cases hv:f x with
   | none=>exact absurd hv ((hk.2 x).1 hx)
   | some v=>rfl
  rw [hs,has_eq] at hh;obtain⟨p,Ha,Hd⟩:=List.any_eq_true.1 hh;have Hf:p.1=kl:=by
   first
    | exact WideAt.sameKey_eq Hd
    | exact(WideAt.sameKey_eq Hd).symm
  obtain⟨y,hy,ey⟩:=h4 p Ha;rw [Hf] at ey;have:=hi _ _ (K.inj Hc ey);rw [this];exact hy
 exact((List.perm_ext_iff_of_nodup h2 hk.1).2 (fun x=>⟨e1 x,e2 x⟩)).length_eq
end
theorem dis_pair {J:List Lf}(hd:Dis J J.length):J.Pairwise (fun x y=>((x.r,x.q):Dt)≠(y.r,y.q)):=by
 refine List.pairwise_iff_getElem.2 fun i j hi hj hij e=> ?_;have h1:=hd j hj i hij;have e1:gL J i=J[i]:=by simp [gL,List.getD,hi]
 have e2:gL J j=J[j]:=by simp [gL,List.getD,hj]
 rw [e1,e2] at h1;exact h1 ⟨congrArg Prod.fst e,congrArg Prod.snd e⟩
theorem marks_keys {J:List Lf}(hd:Dis J J.length)(z:List Ky):KeysF (Mk J J.length z) ((J.filter (fun x=>yes (Way x=z))).map fun x=>((x.r,x.q):Dt)):=by
 refine⟨?_,fun d=> ?_⟩
 ·rw [List.Nodup,List.pairwise_map];exact(dis_pair hd).sublist List.filter_sublist
 ·rw [List.mem_map];constructor
  ·rintro⟨x,hx,e⟩;have Ha:=List.mem_filter.1 hx;obtain⟨j,hj,ej⟩:=gL_mem.1 Ha.1;have hw:Way x=z:=by
    refine Classical.byContradiction fun hn=> ?_;have:=Ha.2;rw [yes_f hn] at this;cases this
   exact Mk_ne.2 ⟨j,hj,by rw [ej];exact hw,by rw [ej];exact e⟩
  ·intro h;obtain⟨j,hj,h2,h3⟩:=Mk_ne.1 h;exact⟨gL J j,List.mem_filter.2 ⟨gL_mem.2 ⟨j,hj,rfl⟩,yes_t h2⟩,h3⟩
theorem marks_len {J:List Lf}(hd:Dis J J.length){w:World}{z:List Ky}{b c:Nat}{D:DataW Value}(h:FM w 58 dtV mrkV b c (Mk J J.length z) D):Maps.size D=mW J z:=by
 rw [h.size dotKeyed (fun _ _=>dtV_inj) (marks_keys hd z),List.length_map];rfl
def MO {α β:Type}(w:World)(t:TypeId)(kv:α ->Value)(vo:Option β ->Value)(mo:Option Nat)(c:Nat)(f:α ->Option β):Prop:=
 match mo with
 | some b=>MapF w t kv vo b c f
 | none=>∀x,f x=none
def Rng {α β:Type}(w:World)(t:TypeId)(kv:α ->Value)(vo:Option β ->Value)(mo:Option Nat)(r c:Nat)(f:α ->Option β)(ds:List α)(cnt:Nat):Prop:=
 match mo with
 | some b=>∃D left,w.ranges Tryz.prog t allR b r c D left cnt/\ FM w t kv vo b c f D/\ CollF t kv f left ds/\ ds.length+cnt<=Maps.size D
 | none=>w.heap[r]? =some (.mapIter none 0 #[] 0)/\ ds=[]/\ cnt=0/\∀x,f x=none
section
variable {α β : Type} {w w' : World} {t : TypeId} {kv : α -> Value} {vo : Option β -> Value} {mo : Option Nat} {r c cnt : Nat} {f : α -> Option β} {ds : List α}
theorem MO.lt (h:MO w t kv vo mo c f):∀b,mo=Option.some b ->b<w.heap.size:=fun b e=>by subst e;exact MapF.lt h
theorem MO.kept {row:Option Nat}(h:MO w t kv vo mo c f)(hg:w.grownBy w' row)(hne:∀b,mo=Option.some b ->row≠Option.some b):MO w' t kv vo mo c f:=by
 cases mo with
 | none=>exact h
 | some b=>exact MapF.same h (hg.block b (MapF.lt h) (fun e=>hne b rfl e.symm))
theorem MO.below {B:Nat}(h:MO w t kv vo mo c f)(hb:Below B w w')(hne:∀b,mo=Option.some b ->b<B):MO w' t kv vo mo c f:=by
 cases mo with
 | none=>exact h
 | some b=>exact MapF.same h (hb.block b (hne b rfl))
theorem Rng.left_eq {b:Nat}(h:Rng w t kv vo (Option.some b) r c f ds cnt):w.rangeLeft b r=cnt:=by
 obtain⟨D,Ha,h,_⟩:=h;exact h.left_eq
theorem Rng.lt (h:Rng w t kv vo mo r c f ds cnt):r<w.heap.size:=by
 cases mo with
 | none=>exact(Array.getElem?_eq_some_iff.1 h.1).1
 | some b=>obtain⟨D,Ha,h,_⟩:=h;exact h.lt
theorem Rng.mlt (h:Rng w t kv vo mo r c f ds cnt):∀b,mo=Option.some b ->b<w.heap.size:=fun b e=>by
 subst e;obtain⟨D,Ha,h,_⟩:=h;exact h.owns.lt
theorem Rng.len (h:Rng w t kv vo mo r c f ds cnt):ds.length+cnt<=c:=by
 cases mo with
 | none=>rw [h.2.1,h.2.2.1];simp
 | some b=>obtain⟨D,Ha,h,h2,_,h4⟩:=h;have:=h.owns.size_le;omega
theorem Rng.kept {row:Option Nat}(h:Rng w t kv vo mo r c f ds cnt)(hg:w.grownBy w' row)(hne:∀b,mo=Option.some b ->row≠Option.some b)(hr:row≠Option.some r):Rng w' t kv vo mo r c f ds cnt:=by
 have hl:=h.lt;cases mo with
 | none=>exact⟨(hg.block r hl (fun e=>hr e.symm)).trans h.1,h.2⟩
 | some b=>
  obtain⟨D,Ha,h,h2,h3⟩:=h;have h':=h.kept hg (fun e=>hne b rfl e.symm) (fun e=>hr e.symm);exact⟨D,Ha,h',⟨h'.owns,h2.at',h2.cov,h2.ok⟩,h3⟩
theorem Rng.same (h:Rng w t kv vo mo r c f ds cnt)(hg:∀b,mo=Option.some b ->w'.heap[b]? =w.heap[b]?)(hr:w'.heap[r]? =w.heap[r]?):Rng w' t kv vo mo r c f ds cnt:=by
 cases mo with
 | none=>exact⟨hr.trans h.1,h.2⟩
 | some b=>
  obtain⟨D,Hb,⟨es,Ha,Hc,He,c0,hb,F,hs,hD,Hf,Hd⟩,h2,h3⟩:=h;have h':w'.ranges Tryz.prog t allR b r c D Hb cnt:=⟨es,Ha,Hc,He,c0,(hg b rfl).trans hb,F,hs,hD,hr.trans Hf,Hd⟩;exact⟨D,Hb,h',⟨h'.owns,h2.at',h2.cov,h2.ok⟩,h3⟩
end
theorem run_next_none {w:World}{r:Nat}(h:w.heap[r]? =some (.mapIter none 0 #[] 0))(ty:TypeId):(Instr.next (.pointer (some ⟨r,0,none⟩)) false ty).run Tryz.prog w=.ok (.tuple #[.bool false]) w:=by
 simp only [Instr.next,getObj,Sem.run_bind,Sem.run,h,Result.andThen];rfl
section
variable {α β : Type} {t : TypeId} {kv : α -> Value} {vo : Option β -> Value} {mo : Option Nat} {r c cnt : Nat} {f : α -> Option β} {ds : List α}
variable (w : World) {ops : Array Oper} {rest : List Oper} {o : Oper} {a : Act} {Q : Exit -> Act -> World -> Prop}
theorem wpList_range_O (hg:o.guard=none)(m:Operand)(mt:TypeId)(hop:o.op=Op.range mt m)(t e:TypeId)(K:Keyed Tryz.prog t)(ht:Tryz.prog.underlying mt=some (.map t e))(kv:α ->Value)(vo:Option β ->Value)(mo:Option Nat)(c:Nat)(f:α ->Option β)
  (hm:a.eval m=.map mo) (h:MO w t kv vo mo c f)
  (hK:∀w' cnt,Rng w' t kv vo mo w.heap.size c f ([]:List α) cnt ->w.grownBy w' none ->w'.heap.size=w.heap.size+1 ->wpList Tryz.prog ops Q rest (a.put o.dst (.pointer (some ⟨w.heap.size,0,none⟩))) w'):
  wpList Tryz.prog ops Q (o::rest) a w:=by
 cases mo with
 | some b=>
  obtain⟨D,h⟩:=h;refine wpList_range_own w hg m mt hop t e K ht allR b c D hm h.own ?_;intro w0 hr Ha Hb;have hb:=Ha.block b (MapF.lt ⟨D,h⟩) (by simp);exact hK w0 _ ⟨D,_,hr,⟨hr.owns,h.at',h.cov,h.ok⟩,CollF.start h,by simp⟩ Ha Hb
 | none=>
  refine wpList_plain hg fun K' hK'=> ?_;unfold Oper.wp;simp [execOp,hop,hm,run_range_nilMap w mt t e ht,Result.andThen];exact hK' _ _ (hK _ 0 ⟨heap_alloc_new w _,rfl,rfl,h⟩ (World.grownBy_alloc w _ none) (by simp))
theorem wpList_next_O (hg:o.guard=none)(it:Operand)(hop:o.op=Op.next it false)(t:TypeId)(K:Keyed Tryz.prog t)(kv:α ->Value)(hi:∀x y,kv x=kv y ->x=y)(invK:∀key kl,keyOf Tryz.prog t key=some kl ->∃x,key=kv x)(vo:Option β ->Value)(mo:Option Nat)(r c:Nat)(f:α ->Option β)(ds:List α)(cnt:Nat)
  (hit:a.eval it=.pointer (some ⟨r,0,none⟩)) (h:Rng w t kv vo mo r c f ds cnt)
  (hDone:KeysF f ds ->wpList Tryz.prog ops Q rest (a.put o.dst (.tuple #[.bool false])) w)
  (hMore:∀(x:α) (y:β) (w':World) (cnt' b:Nat),mo=some b ->f x=some y ->x ∉ ds ->(∃kl,keyOf Tryz.prog t (kv x)=some kl) ->Rng w' t kv vo mo r c f (ds++[x]) cnt' ->cnt'<cnt ->w.grownBy w' (some r) ->w'.heap.size=w.heap.size ->
   (Instr.entry (.pointer (some ⟨r,0,none⟩))).run Tryz.prog w'=.ok (.tuple #[kv x,vo (some y)]) w' ->wpList Tryz.prog ops Q rest (a.put o.dst (.tuple #[.bool true,kv x,vo (some y)])) w'):
  wpList Tryz.prog ops Q (o::rest) a w:=by
 cases mo with
 | none=>
  refine wpList_plain hg fun K' hK'=> ?_;unfold Oper.wp;simp [execOp,hop,hit,run_next_none h.1,Result.andThen];refine hK' _ _ (hDone ?_);rw [h.2.1];exact⟨List.nodup_nil,fun x=>⟨fun hx=>(by cases hx),fun hx=>absurd (h.2.2.2 x) hx⟩⟩
 | some b=>
  obtain⟨D,Hf,hr,hF,hC,Hk⟩:=h;refine wpList_next_ranges (α:=α) (β:=Value) w hg it hop t K allR kv id invK (fun v _ _=>⟨v,rfl⟩) b r c D Hf cnt hit hr (fun h0 hl=>hDone (hC.done hF hl)) ?_;intro x v kl y w1 Hc Ha Hg hv Hd Hh Hl Hj Hn Hi;have He:=has_true_of_atKey Hd;have Hb:=(hF.at' x kl Ha).1;rw [He] at Hb;obtain⟨z,hz⟩:∃z,f x=some z:=by
   cases e:f x with
   | none=>rw [e] at Hb;cases Hb
   | some z=>exact⟨z,rfl⟩
  have Ho:v=vo (some z):=by
   have h1:=(hF.at' x kl Ha).2;rw [Hd,hz] at h1;have h2:=allR_inv hv;rw [h2] at h1;injection h1
  subst Ho;have Hm:x ∉ ds:=fun hx=>by have:=(hC.old x hx).2 kl Ha;rw [Hg] at this;cases this
  exact hMore x z w1 Hc b rfl hz Hm ⟨kl,Ha⟩ ⟨D,_,Hh,⟨Hh.owns,hF.at',hF.cov,hF.ok⟩,hC.step hF K hi Ha Hg Hd,by simp;omega⟩ Hl Hj Hn Hi
end
section
variable {α β : Type} {w w' : World} {t : TypeId} {kv : α -> Value} {vo : Option β -> Value} {mo : Option Nat} {r c cnt : Nat} {f : α -> Option β} {ds : List α}
theorem MO.look_ok {mt e:TypeId}(h:MO w t kv vo mo c f)(K:Keyed Tryz.prog t)(ht:Tryz.prog.underlying mt=Option.some (.map t e))(hz:(zeroValue e).run Tryz.prog w=.ok (vo none) w){x:α}{kl:Lit}(hk:keyOf Tryz.prog t (kv x)=Option.some kl):
  (Instr.lookup mt (.map mo) (kv x) true).run Tryz.prog w=.ok (.tuple #[vo (f x),.bool (f x).isSome]) w:=by
 cases mo with
 | some b=>exact MapF.look_ok h K ht hz hk
 | none=>
  rw [h x];exact Maps.look_nil true K ht hz hk
end
theorem keyOf_dot_wf {r q:Int}{kl:Lit}(h:keyOf Tryz.prog 58 (dtV (r,q))=some kl):(Lit.int .i64 r).wf=true/\ (Lit.int .i64 q).wf=true:=by
 unfold keyOf at h;rw [Tryz.underlying58] at h;simp only [dotKT,Bool.true_and] at h;have h0:0<Tryz.prog.types.size:=of_decide_eq_true (by kernel_rfl);obtain⟨m,hm⟩:∃m,Tryz.prog.types.size=m+1:=⟨Tryz.prog.types.size - 1,by omega⟩;rw [hm] at h;have e2:Tryz.prog.cellsOf 58=2:=by kernel_rfl
 have ei:Tryz.prog.cellsOf 3=1:=by kernel_rfl
 simp [dtV,dotV,Value.formed,Tryz.underlying58,e2,Program.keyLits,Tryz.underlying3,ei,Value.cells] at h;by_cases hr:(Lit.int .i64 r).wf=true
 ·by_cases hq:(Lit.int .i64 q).wf=true
  ·exact⟨hr,hq⟩
  ·simp [hr,hq] at h
 ·simp [hr] at h
theorem mrkF:Tryz.prog.fieldsOf 74=match Tryz.prog.underlying 74 with|some (.struct fs)=>fs|_=>#[]:=rfl
theorem mrkStood:Tryz.prog.stoodInHeld 74=false:=by kernel_rfl
theorem eqlMark (s s':ByteArray)(w:World):(binOp .eql 74 (.agg #[.string s]) (.agg #[.string s'])).run Tryz.prog w=.ok (.bool (s.toList==s'.toList)) w:=by
 rw [run_eql_struct,show (10000:Nat)=9999+1 from rfl,run_equalIn_agg _ _ _ _ _ (by kernel_rfl) mrkStood,mrkF,Tryz.underlying74];cases h1:(s.toList==s'.toList)<;>simp [Op.eqFields,go_sem,Tryz.underlying9,h1]
theorem keepMarksC (ka ma kb mb kj na:Option Nat)(bj bm ca cb c:Nat)(fa fb f:Dt ->Option ByteArray)(hb:Dt ->Bool)(w:World)
  (hA:MO w 58 dtV mrkV ma ca fa) (hB:MO w 58 dtV mrkV mb cb fb) (hJ:MapF w 58 dtV mrkV bj c f) (hna:ma≠some bj) (hnb:mb≠some bj) (hc:c+ca<=1048576)
  (hH:∀w',w.grownBy w' (some bj) ->∀r q kl,keyOf Tryz.prog 58 (dtV (r,q))=some kl ->Calls Tryz.prog 115 #[.map (some bm),.agg #[.int .i64 r,.int .i64 q]] w' fun e w''=>e=.returned (.bool (hb (r,q)))/\ Below w'.heap.size w' w''):
  Calls Tryz.prog 130 #[.agg #[.map ka,.map ma,.map na],.agg #[.map kb,.map mb,.map (some bm)],.agg #[.map kj,.map (some bj)]] w fun e w'=>e=.returned (.tuple #[])/\ MapF w' 58 dtV mrkV bj (c+ca) (kmF fa fb hb f)/\ w.grownBy w' (some bj):=by
 obtain⟨W,hW⟩:∃W,((w.alloc (.cells #[.map ka,.map ma,.map na] 69)).alloc (.cells #[.map kb,.map mb,.map (some bm)] 69)).alloc (.cells #[.map kj,.map (some bj)] 65)=W:=⟨_,rfl⟩;have g0:w.grownBy W (some bj):=by rw [<- hW];exact((World.grownBy_alloc w _ _).trans (World.grownBy_alloc _ _ _)).trans (World.grownBy_alloc _ _ _)
 have b0:Below w.heap.size w W:=by rw [<- hW];exact((zO _ _).alloc (by simp) _).alloc (by simp;omega) _
 have X0:Bx3 W w.heap.size (.map ka) (.map ma) (.map na):=by
  rw [<- hW];exact((Bx3.made w (.map ka) (.map ma) (.map na) 69).below (zO _ _) (Bx3.made w (.map ka) (.map ma) (.map na) 69).lt).below (zO _ _) (by simp;omega)
 have X1:Bx3 W (w.heap.size+1) (.map kb) (.map mb) (.map (some bm)):=by
  rw [<- hW];have:=Bx3.made (w.alloc (.cells #[.map ka,.map ma,.map na] 69)) (.map kb) (.map mb) (.map (some bm)) 69;exact(by simpa using this:Bx3 _ (w.heap.size+1) _ _ _).below (zO _ _) (by simp)
 have X2:Bx2 W (w.heap.size+2) (.map kj) (.map (some bj)):=by
  rw [<- hW];simpa using Bx2.made ((w.alloc (.cells #[.map ka,.map ma,.map na] 69)).alloc (.cells #[.map kb,.map mb,.map (some bm)] 69)) (.map kj) (.map (some bj)) 65
 have HA:=hid (hA.kept g0 (fun b e h=>hna (by rw [e];exact h.symm)));have HB:=hid (hB.kept g0 (fun b e h=>hnb (by rw [e];exact h.symm)));have HJ:=hid (MapF.same hJ (b0.block bj hJ.lt));have HN:=hid (⟨hna,hnb,hJ.lt,hc⟩:ma≠some bj/\ mb≠some bj/\ bj<w.heap.size/\ c+ca<=1048576);have HH:=hid (fun w' (hg:W.grownBy w' (some bj))=>hH w' (g0.trans hg));have Gs:=hid g0;have Gx:=hid (fun b (e:ma=some b)=>hA.lt b e);have Gm:W.heap.size=w.heap.size+3:=by rw [<- hW];simp
 have H4:=hid Gm;have HX:=hid (⟨X1,X2⟩:Bx3 W (w.heap.size+1) (.map kb) (.map mb) (.map (some bm))/\ Bx2 W (w.heap.size+2) (.map kj) (.map (some bj)));have k1:=X0.c1;clear hA hB hJ hna hnb hc hH g0 b0 X0 X1 X2 Gm;go_enter Tryz.func130,Tryz.ntmps130;go_wp2_with (at_range;refine wpList_range_O _ rfl _ 63 rfl 58 74 dotKeyed Tryz.underlying63 dtV mrkV ma ca fa rfl HA.out ?_;intro w0 Gu Hx Gd Gv);have Gg:Hid (W.grownBy w0 (some bj)):=hid (Gd.but _);have Gk:Hid (MapF w0 58 dtV mrkV bj (c+([]:List Dt).length) (kmS fa fb hb f [])):=hid (by rw [kmS_start];exact MapF.same HJ.out (Gd.block bj HJ.out.lt (by simp)));clear Gd Gv HJ HA k1 hW;try go_frame
 go_loopw [] (fun wr=>∃(ds:List Dt) (Ga:Nat),Rng wr 58 dtV mrkV ma W.heap.size ca fa ds Ga/\ Hid (MapF wr 58 dtV mrkV bj (c+ds.length) (kmS fa fb hb f ds))/\ Hid (W.grownBy wr (some bj))) (fun wr=>wr.rangeLeft (ma.getD 0) W.heap.size);case atStart=>exact⟨[],_,Hx,Gk,Gg⟩
 case round=>
  clear Hx Gk Gg;obtain⟨ds,Ga,H5,H9,Gj⟩:=hrel;have Hk:=hid H5;go_wp2_with (at_next;refine wpList_next_O _ rfl _ rfl 58 dotKeyed dtV (fun _ _=>dtV_inj) (fun key kl hk=>keyOf_dot hk) mrkV ma W.heap.size ca fa ds Ga rfl H5 ?_ ?_)
  ·intro hk;have HE:Hid (MapF wr 58 dtV mrkV bj (c+ca) (kmF fa fb hb f)):=hid (by rw [<- kmS_done hk];exact H9.out.mono (by have:=Hk.out.len;omega));have Gr:=hid (Gs.out.trans Gj.out);clear hk H5;go_wp2_with fail;go_end0;exact⟨rfl,HE.out,Gr.out⟩
  ·intro xr xq s w5 Gb b1 Gp Gn Gq kl Go Hy Hm Ge Gw Gc;have Hs:=hid Gn;have Gl:=hid Gq;have Hp:=hid Go;have H8:Hid (c+ds.length<maxLen):=hid (by have h1:=Hk.out.len;have h2:=HN.out.2.2.2;have h3:=Hm;unfold maxLen;omega);have Hv:Hid (∀w9,Rng w9 58 dtV mrkV ma W.heap.size ca fa (ds++[(xr,xq)]) Gb ->w9.rangeLeft (ma.getD 0) W.heap.size<wr.rangeLeft (ma.getD 0) W.heap.size):=hid (fun w9 h9=>by
    have h1:=Hk.out;rw [Gp] at h9 h1 ⊢;show w9.rangeLeft b1 _<wr.rangeLeft b1 _;rw [h9.left_eq,h1.left_eq];exact Hm)
   have Gh:Hid (W.grownBy w5 (some bj)):=hid (Gj.out.andThen Ge (fun j e=>by cases e;exact .inl zL));have Gy:Hid (W.heap.size<=w5.heap.size):=hid Gh.out.size;have H2:Hid (MapF w5 58 dtV mrkV bj (c+ds.length) (kmS fa fb hb f ds)):=hid (MapF.same H9.out (Ge.block bj H9.out.lt (fun e=>by have h1:=HN.out.2.2.1;have h2:=H4.out;injection e with e;omega)));have Hq:=hid Hy;clear Gn Gq Go H5 Hy Hm Ge Gw Gp;obtain⟨w6,Hz⟩:∃w6,(w5.alloc (.cells #[.int .i64 xr,.int .i64 xq] 58)).alloc (.cells #[.string s] 74)=w6:=⟨_,rfl⟩;have b6:Below w5.heap.size w5 w6:=by rw [<- Hz];exact below2 _ _ _
   have D6:Bx2 w6 w5.heap.size (.int .i64 xr) (.int .i64 xq):=by rw [<- Hz];exact(Bx2.made w5 _ _ _).allocs _
   have M6:Bx1 w6 (w5.heap.size+1) (.string s):=by rw [<- Hz];simpa using Bx1.made (w5.alloc (.cells #[.int .i64 xr,.int .i64 xq] 58)) (.string s) 74
   have G6:W.grownBy w6 (some bj):=Gh.out.andThen (row':=none) ⟨b6.os,b6.tape,b6.output,b6.size,fun k hk _=>b6.block k hk⟩ (fun j e=>by cases e);have nb:∀k,w.heap.size<=k ->some k≠some bj:=fun k hk e=>by have h1:=HN.out.2.2.1;injection e with e;omega
   have o1:=G6.cell HX.out.1.c1 (nb _ (by simp));have o2:=G6.cell HX.out.1.c2 (nb _ (by simp));have d0:=D6.c0;have d1:=D6.c1;have m0:=M6.c0;have H0:=hid D6;have H3:=hid M6;have Gi:=hid G6;have Gf:=hid b6;have Hl:=(HB.out.kept G6 (fun b e h=>HN.out.2.1 (by rw [e,h]))).look_ok dotKeyed Tryz.underlying63 (zeroMark w6) (x:=(xr,xq)) Hp.out;dsimp only [dtV,dotV,mrkV] at Gc Hl ⊢;clear b6 D6 M6 G6 nb;cases hfb:fb (xr,xq) with
   | none=>
    rw [hfb] at Hl;have H1:=hid hfb;dsimp only [mrkV,Option.isSome] at Hl;clear hfb;obtain⟨w7,Hn⟩:∃w7,w6.alloc (.cells #[.string ByteArray.empty] 74)=w7:=⟨_,rfl⟩;have b7:Below w6.heap.size w6 w7:=by rw [<- Hn];exact zO _ _
    have T7:Bx1 w7 w6.heap.size (.string ByteArray.empty):=by rw [<- Hn];exact Bx1.made _ _ _
    have Hc:Hid (W.grownBy w7 (some bj)):=hid (Gi.out.andThen (row':=none) ⟨b7.os,b7.tape,b7.output,b7.size,fun k hk _=>b7.block k hk⟩ (fun j e=>by cases e));have H7:=hid (keepS Gf.out b7);have D7:=H0.out.below b7 H0.out.lt;have M7:=H3.out.below b7 H3.out.lt;have Hb:=hid D7;have Hu:=hid M7;have Hw:=hid T7;have Hr:=hid (HH.out w7 Hc.out xr xq kl Hp.out);have nb:∀k,w.heap.size<=k ->some k≠some bj:=fun k hk e=>by have h1:=HN.out.2.2.1;injection e with e;omega
    have p1:=Hc.out.cell HX.out.1.c1 (nb _ (by simp));have p2:=Hc.out.cell HX.out.1.c2 (nb _ (by simp));have q0:=D7.c0;have q1:=D7.c1;clear b7 T7 D7 M7 nb;go_wp2_with fail;refine Hr.out.mono ?_;rintro e w8 ⟨rfl,b8⟩;have Hf:Hid (W.grownBy w8 (some bj)):=hid (Hc.out.andThen (row':=none) ⟨b8.os,b8.tape,b8.output,b8.size,fun k hk _=>b8.block k hk⟩ (fun j e=>by cases e));have B8:=keepS H7.out b8;have Ho:=hid (MapF.same H2.out (B8.block bj H2.out.lt));have Hg:=hid (Hq.out.same (fun b e=>B8.block b (Hq.out.mlt b e)) (B8.block _ Hq.out.lt));have nb:∀k,w.heap.size<=k ->some k≠some bj:=fun k hk e=>by have h1:=HN.out.2.2.1;injection e with e;omega
    have r1:=Hf.out.cell HX.out.2.c1 (nb _ (by simp));have s0:=(Hb.out.below b8 Hb.out.lt).c0;have s1:=(Hb.out.below b8 Hb.out.lt).c1;have s2:=(Hu.out.below b8 Hu.out.lt).c0;have s3:=(Hw.out.below b8 Hw.out.lt).c0;clear b8 B8 nb Hl Gc o1 o2 d0 d1 m0 p1 p2 q0 q1 Hz Hn Hr;cases hhb:hb (xr,xq) with
    | false=>
     have Hj:=hid hhb;clear hhb;have He:Hid (kmS fa fb hb f (ds++[(xr,xq)])=updF (kmS fa fb hb f ds) (xr,xq) (some s)):=hid (kmS_keep Hs.out (.inl Hj.out));go_wp2_with (refine wpList_mapUpdate_F _ rfl _ _ _ 63 rfl 58 74 dotKeyed dtV (fun _ _=>dtV_inj) Tryz.underlying63 mrkV bj (c+ds.length) (kmS fa fb hb f ds) rfl Ho.out H8.out (xr,xq) s kl rfl rfl Hp.out ?_;intro w9 Hi Ha);have Hh:=hid (Hg.out.kept Ha (fun b e h=>HN.out.1 (by rw [e,h])) (fun h=>by have h1:=HN.out.2.2.1;have h2:=H4.out;injection h with h;omega));have Hd:Hid (MapF w9 58 dtV mrkV bj (c+(ds++[(xr,xq)]).length) (kmS fa fb hb f (ds++[(xr,xq)]))):=hid (by rw [He.out];simpa [Nat.add_assoc] using Hi);have Ht:=hid (Hf.out.trans Ha);clear Hi Ha;simp only [Act.put];go_roundw;case rel=>exact⟨_,_,Hh.out,Hd,Ht⟩
     case measure=>exact Hv.out w9 Hh.out
    | true=>
     have Hj:=hid hhb;clear hhb;have He:Hid (kmS fa fb hb f (ds++[(xr,xq)])=kmS fa fb hb f ds):=hid (kmS_drop Hs.out Gl.out (fun h=>h.elim (fun h=>by rw [Hj.out] at h;cases h) (fun h=>by rw [H1.out] at h;cases h)));have Hd:Hid (MapF w8 58 dtV mrkV bj (c+(ds++[(xr,xq)]).length) (kmS fa fb hb f (ds++[(xr,xq)]))):=hid (by rw [He.out];exact Ho.out.mono (by simp));go_wp2_with fail;go_roundw;case rel=>exact⟨_,_,Hg.out,Hd,Hf⟩
     case measure=>exact Hv.out w8 Hg.out
   | some t=>
    rw [hfb] at Hl;have H1:=hid hfb;dsimp only [mrkV,Option.isSome] at Hl;clear hfb;obtain⟨w7,Hn⟩:∃w7,w6.alloc (.cells #[.string t] 74)=w7:=⟨_,rfl⟩;have b7:Below w6.heap.size w6 w7:=by rw [<- Hn];exact zO _ _
    have T7:Bx1 w7 w6.heap.size (.string t):=by rw [<- Hn];exact Bx1.made _ _ _
    have Hc:Hid (W.grownBy w7 (some bj)):=hid (Gi.out.andThen (row':=none) ⟨b7.os,b7.tape,b7.output,b7.size,fun k hk _=>b7.block k hk⟩ (fun j e=>by cases e));have H7:=hid (keepS Gf.out b7);have D7:=H0.out.below b7 H0.out.lt;have M7:=H3.out.below b7 H3.out.lt;have Hb:=hid D7;have Hu:=hid M7;have Hw:=hid T7;have Hr:=hid (HH.out w7 Hc.out xr xq kl Hp.out);have nb:∀k,w.heap.size<=k ->some k≠some bj:=fun k hk e=>by have h1:=HN.out.2.2.1;injection e with e;omega
    have p1:=Hc.out.cell HX.out.1.c1 (nb _ (by simp));have p2:=Hc.out.cell HX.out.1.c2 (nb _ (by simp));have q0:=D7.c0;have q1:=D7.c1;clear b7 T7 D7 M7 nb;go_wp2_with fail;refine Hr.out.mono ?_;rintro e w8 ⟨rfl,b8⟩;have Hf:Hid (W.grownBy w8 (some bj)):=hid (Hc.out.andThen (row':=none) ⟨b8.os,b8.tape,b8.output,b8.size,fun k hk _=>b8.block k hk⟩ (fun j e=>by cases e));have B8:=keepS H7.out b8;have Ho:=hid (MapF.same H2.out (B8.block bj H2.out.lt));have Hg:=hid (Hq.out.same (fun b e=>B8.block b (Hq.out.mlt b e)) (B8.block _ Hq.out.lt));have nb:∀k,w.heap.size<=k ->some k≠some bj:=fun k hk e=>by have h1:=HN.out.2.2.1;injection e with e;omega
    have r1:=Hf.out.cell HX.out.2.c1 (nb _ (by simp));have s0:=(Hb.out.below b8 Hb.out.lt).c0;have s1:=(Hb.out.below b8 Hb.out.lt).c1;have s2:=(Hu.out.below b8 Hu.out.lt).c0;have s3:=(Hw.out.below b8 Hw.out.lt).c0;clear b8 B8 nb Hl Gc o1 o2 d0 d1 m0 p1 p2 q0 q1 Hz Hn Hr;cases hhb:hb (xr,xq) with
    | false=>
     have Hj:=hid hhb;clear hhb;have He:Hid (kmS fa fb hb f (ds++[(xr,xq)])=updF (kmS fa fb hb f ds) (xr,xq) (some s)):=hid (kmS_keep Hs.out (.inl Hj.out));go_wp2_with (refine wpList_mapUpdate_F _ rfl _ _ _ 63 rfl 58 74 dotKeyed dtV (fun _ _=>dtV_inj) Tryz.underlying63 mrkV bj (c+ds.length) (kmS fa fb hb f ds) rfl Ho.out H8.out (xr,xq) s kl rfl rfl Hp.out ?_;intro w9 Hi Ha);have Hh:=hid (Hg.out.kept Ha (fun b e h=>HN.out.1 (by rw [e,h])) (fun h=>by have h1:=HN.out.2.2.1;have h2:=H4.out;injection h with h;omega));have Hd:Hid (MapF w9 58 dtV mrkV bj (c+(ds++[(xr,xq)]).length) (kmS fa fb hb f (ds++[(xr,xq)]))):=hid (by rw [He.out];simpa [Nat.add_assoc] using Hi);have Ht:=hid (Hf.out.trans Ha);clear Hi Ha;simp only [Act.put];go_roundw;case rel=>exact⟨_,_,Hh.out,Hd,Ht⟩
     case measure=>exact Hv.out w9 Hh.out
    | true=>
     have Hj:=hid hhb;have EQ:∀w:World,(binOp .eql 74 (.agg #[.string t]) (.agg #[.string s])).run Tryz.prog w=.ok (.bool (t.toList==s.toList)) w:=fun w=>eqlMark t s w;clear hhb;by_cases H6:t=s
     ·subst H6;have hz:(t.toList==t.toList)=true:=by simp
      rw [hz] at EQ;clear hz;have He:Hid (kmS fa fb hb f (ds++[(xr,xq)])=updF (kmS fa fb hb f ds) (xr,xq) (some t)):=hid (kmS_keep Hs.out (.inr H1.out));go_wp2_with (refine wpList_mapUpdate_F _ rfl _ _ _ 63 rfl 58 74 dotKeyed dtV (fun _ _=>dtV_inj) Tryz.underlying63 mrkV bj (c+ds.length) (kmS fa fb hb f ds) rfl Ho.out H8.out (xr,xq) t kl rfl rfl Hp.out ?_;intro w9 Hi Ha);have Hh:=hid (Hg.out.kept Ha (fun b e h=>HN.out.1 (by rw [e,h])) (fun h=>by have h1:=HN.out.2.2.1;have h2:=H4.out;injection h with h;omega));have Hd:Hid (MapF w9 58 dtV mrkV bj (c+(ds++[(xr,xq)]).length) (kmS fa fb hb f (ds++[(xr,xq)]))):=hid (by rw [He.out];simpa [Nat.add_assoc] using Hi);have Ht:=hid (Hf.out.trans Ha);clear Hi Ha;simp only [Act.put];go_roundw;case rel=>exact⟨_,_,Hh.out,Hd,Ht⟩
      case measure=>exact Hv.out w9 Hh.out
     ·have hz:(t.toList==s.toList)=false:=by simpa using fun h=>H6 (toList_inj h)
      have Gt:=hid H6;rw [hz] at EQ;clear hz H6;have He:Hid (kmS fa fb hb f (ds++[(xr,xq)])=kmS fa fb hb f ds):=hid (kmS_drop Hs.out Gl.out (fun h=>h.elim (fun h=>by rw [Hj.out] at h;cases h) (fun h=>by rw [H1.out] at h;exact Gt.out (Option.some.inj h))));have Hd:Hid (MapF w8 58 dtV mrkV bj (c+(ds++[(xr,xq)]).length) (kmS fa fb hb f (ds++[(xr,xq)]))):=hid (by rw [He.out];exact Ho.out.mono (by simp));go_wp2_with fail;go_roundw;case rel=>exact⟨_,_,Hg.out,Hd,Hf⟩
      case measure=>exact Hv.out w8 Hg.out
theorem underC (z:List Ky)(s:ByteArray)(k:Int)(kn:Option Nat)(B c:Nat)(N:List Ky ->Option (Nat×Nat))(M:List Ky ->Dt ->Option ByteArray)(w:World)(kl:Lit)(hk:keyOf Tryz.prog 114 (keyV (s,k))=some kl)(hT:Tre w B N M c):
  Calls Tryz.prog 132 #[.agg #[.map (mF (N z)),.map (mS (N z)),.map kn],.agg #[.string s,.int .i64 k]] w fun e w'=>e=.returned (.agg #[.map (mF (N (z++[(s,k)]))),.map (mS (N (z++[(s,k)]))),.map kn])/\ Below w.heap.size w w':=by
 have Ha:Hid (∀w',Below w.heap.size w w' ->(Instr.lookup 62 (.map (mF (N z))) (.agg #[.string s,.int .i64 k]) false).run Tryz.prog w'=.ok (.agg #[.map (mF (N (z++[(s,k)]))),.map (mS (N (z++[(s,k)])))]) w'):=hid (fun w' b=>(hT.below b).look z (s,k) hk);obtain⟨u0,Hb⟩:∃u,mF (N z)=u:=⟨_,rfl⟩;obtain⟨u1,He⟩:∃u,mS (N z)=u:=⟨_,rfl⟩;obtain⟨v0,Hc⟩:∃u,mF (N (z++[(s,k)]))=u:=⟨_,rfl⟩;obtain⟨v1,Hd⟩:∃u,mS (N (z++[(s,k)]))=u:=⟨_,rfl⟩;rw [Hb,Hc,Hd] at Ha;rw [Hb,He,Hc,Hd];obtain⟨W,hW⟩:∃W,((w.alloc (.cells #[.map u0,.map u1,.map kn] 69)).alloc (.cells #[.string s,.int .i64 k] 114)).alloc (.cells #[.map none,.map none,.map none] 69)=W:=⟨_,rfl⟩;have b0:Below w.heap.size w W:=by rw [<- hW];exact((zO _ _).alloc (by simp) _).alloc (by simp;omega) _
 have X0:Bx3 W w.heap.size (.map u0) (.map u1) (.map kn):=by
  rw [<- hW];exact((Bx3.made w (.map u0) (.map u1) (.map kn) 69).below (zO _ _) (Bx3.made w (.map u0) (.map u1) (.map kn) 69).lt).below (zO _ _) (by simp;omega)
 have X1:Bx2 W (w.heap.size+1) (.string s) (.int .i64 k):=by
  rw [<- hW];have:=Bx2.made (w.alloc (.cells #[.map u0,.map u1,.map kn] 69)) (.string s) (.int .i64 k) 114;exact(by simpa using this:Bx2 _ (w.heap.size+1) _ _).below (zO _ _) (by simp)
 have X2:Bx3 W (w.heap.size+1+1) (.map none) (.map none) (.map none):=by
  rw [<- hW];simpa using Bx3.made ((w.alloc (.cells #[.map u0,.map u1,.map kn] 69)).alloc (.cells #[.string s,.int .i64 k] 114)) (.map none) (.map none) (.map none) 69
 have LK:(Instr.lookup 62 (.map u0) (.agg #[.string s,.int .i64 k]) false).run Tryz.prog W.drew=.ok (.agg #[.map v0,.map v1]) W.drew:=Ha.out _ ⟨b0.os,b0.tape,b0.output,b0.size,b0.block⟩;have x0:=X0.c0;have x2:=X0.c2;have y0:=X1.c0;have y1:=X1.c1;have z0:=X2.c0;have z1:=X2.c1;have z2:=X2.c2;have f0:=X2.f 0;have f1:=X2.f 1;have f2:=X2.f 2;have HZ:=hid b0;have Hf:=hid X2;clear b0 X0 X1 X2 Hb He Hc Hd hT Ha;go_enter Tryz.func132,Tryz.ntmps132;go_wp2_with fail;go_region;have HC:=hid (Hf.out.set (.map v0) (.map v1) (.map kn));go_wp2_with fail;have r0:=HC.out.c0;have r1:=HC.out.c1;have r2:=HC.out.c2;refine zF (v:=.agg #[.map v0,.map v1,.map kn]) (by simp [results,Tryz.results132,go_sem,r0,r1,r2]) ⟨rfl,?_⟩;exact(((HZ.out.setCell (by simp;omega) _).setCell (by simp;omega) _).setCell (by simp;omega) _).drew
def Bears (g1:Ky ->Option (Nat×Nat))(g2:Dt ->Option ByteArray):Prop:=(∃y,g1 y≠none) \/(∃d,g2 d≠none)
theorem hangC (x0 x1:Nat×Nat)(s:ByteArray)(k:Int)(c:Nat)(f g1:Ky ->Option (Nat×Nat))(g2:Dt ->Option ByteArray)(w:World)(kl:Lit)(hk:keyOf Tryz.prog 114 (keyV (s,k))=some kl)
  (hF:MapF w 114 keyV nodV x0.1 c f) (h1:MapF w 114 keyV nodV x1.1 c g1) (h2:MapF w 58 dtV mrkV x1.2 c g2) (hc:c<1048576):
  Calls Tryz.prog 131 #[.agg #[.map (some x0.1),.map (some x0.2)],.agg #[.string s,.int .i64 k],.agg #[.map (some x1.1),.map (some x1.2)]] w fun e w'=>e=.returned (.tuple #[])/\ w.grownBy w' (some x0.1)/\
   (Bears g1 g2 ->MapF w' 114 keyV nodV x0.1 (c+1) (updF f (s,k) (some x1)))/\ (¬Bears g1 g2 ->Below w.heap.size w w'):=by
 obtain⟨W,hW⟩:∃W,((w.alloc (.cells #[.map (some x0.1),.map (some x0.2)] 65)).alloc (.cells #[.string s,.int .i64 k] 114)).alloc (.cells #[.map (some x1.1),.map (some x1.2)] 65)=W:=⟨_,rfl⟩;have b0:Below w.heap.size w W:=by rw [<- hW];exact((zO _ _).alloc (by simp) _).alloc (by simp;omega) _
 have X0:Bx2 W w.heap.size (.map (some x0.1)) (.map (some x0.2)):=by
  rw [<- hW];exact((Bx2.made w (.map (some x0.1)) (.map (some x0.2)) 65).allocs _).allocs _
 have X1:Bx2 W (w.heap.size+1) (.string s) (.int .i64 k):=by
  rw [<- hW];have:=Bx2.made (w.alloc (.cells #[.map (some x0.1),.map (some x0.2)] 65)) (.string s) (.int .i64 k) 114;exact(by simpa using this:Bx2 _ (w.heap.size+1) _ _).allocs _
 have X2:Bx2 W (w.heap.size+1+1) (.map (some x1.1)) (.map (some x1.2)):=by
  rw [<- hW];simpa using Bx2.made ((w.alloc (.cells #[.map (some x0.1),.map (some x0.2)] 65)).alloc (.cells #[.string s,.int .i64 k] 114)) (.map (some x1.1)) (.map (some x1.2)) 65
 obtain⟨n1,Hl,Hj,Hd⟩:=(MapF.same h1 (b0.block _ h1.lt)).len keyKeyed Tryz.underlying62;obtain⟨n2,Hm,Hk,He⟩:=(MapF.same h2 (b0.block _ h2.lt)).len dotKeyed Tryz.underlying63;have HF:=hid (MapF.same hF (b0.block _ hF.lt));have HI:=hid (And.intro Hd He);have Hf:Hid (w.grownBy W (some x0.1)):=hid ⟨b0.os,b0.tape,b0.output,b0.size,fun k hk _=>b0.block k hk⟩;have Hi:=hid b0;have HC:Hid (c<maxLen):=hid (by unfold maxLen;omega);have Hg:=hid hk;have Hp:=X0.c0;have Hq:=X1.c0;have Hr:=X1.c1;have Hs:=X2.c0;have Ht:=X2.c1;have Hn:(0:Int)<=(n1:Int):=Int.natCast_nonneg _;have Ho:(0:Int)<=(n2:Int):=Int.natCast_nonneg _;have Ha:∀w9,MapF w9 114 keyV nodV x0.1 (c+1) (updF f (s,k) (some x1)) ->W.grownBy w9 (some x0.1) ->Bears g1 g2 ->w.grownBy w9 (some x0.1)/\
   (Bears g1 g2 ->MapF w9 114 keyV nodV x0.1 (c+1) (updF f (s,k) (some x1)))/\ (¬Bears g1 g2 ->Below w.heap.size w w9):=fun w9 h9 g9 hh=>⟨Hf.out.trans g9,fun _=>h9,fun hn=>absurd hh hn⟩
 have Hh:=hid Ha;clear b0 X0 X1 X2 hF h1 h2 hc hk Hd He Ha;by_cases e1:0<n1
 ·have d1:decide (0<n1)=true:=by simpa using e1
  have HE:Hid (Bears g1 g2):=hid (Or.inl (HI.out.1.1 e1));clear e1;go_enter Tryz.func131,Tryz.ntmps131;go_wp2_with (refine wpList_mapUpdate_F _ rfl _ _ _ 62 rfl 114 65 keyKeyed keyV (fun _ _=>keyV_inj) Tryz.underlying62 nodV x0.1 c f rfl HF.out HC.out (s,k) x1 kl rfl rfl Hg.out ?_;intro w9 Hc Hb);have H9:=hid (Hh.out w9 Hc Hb HE.out);clear Hc Hb;go_end0;exact⟨rfl,H9.out⟩
 ·obtain rfl:n1=0:=by omega
  by_cases e2:0<n2
  ·have d2:decide (0<n2)=true:=by simpa using e2
   have HE:Hid (Bears g1 g2):=hid (Or.inr (HI.out.2.1 e2));clear e1 e2;go_enter Tryz.func131,Tryz.ntmps131;go_wp2_with (refine wpList_mapUpdate_F _ rfl _ _ _ 62 rfl 114 65 keyKeyed keyV (fun _ _=>keyV_inj) Tryz.underlying62 nodV x0.1 c f rfl HF.out HC.out (s,k) x1 kl rfl rfl Hg.out ?_;intro w9 Hc Hb);have H9:=hid (Hh.out w9 Hc Hb HE.out);clear Hc Hb;go_end0;exact⟨rfl,H9.out⟩
  ·obtain rfl:n2=0:=by omega
   have HE:Hid (¬Bears g1 g2):=hid (fun h=>Or.elim h (fun h=>e1 (HI.out.1.2 h)) (fun h=>e2 (HI.out.2.2 h)));clear e1 e2;go_enter Tryz.func131,Tryz.ntmps131;go_wp2_with fail;go_end0;exact⟨rfl,Hf.out,fun h=>absurd h HE.out,fun _=>Hi.out⟩
theorem gr_frozen {w w':World}{row:Option Nat}{a:Addr}(hg:w.grownBy w' row)(hlt:a.block<w.heap.size)(hne:some a.block≠row):w'.frozen? a=w.frozen? a:=by
 unfold World.frozen?;rw [hg.block a.block hlt hne]
theorem Bx3.gr {w w':World}{b:Nat}{v0 v1 v2:Value}{row:Option Nat}(h:Bx3 w b v0 v1 v2)(hg:w.grownBy w' row)(hr:∀k,row=some k ->k≠b):Bx3 w' b v0 v1 v2:=
 have ne:some b≠row:=fun e=>hr b e.symm rfl
 ⟨hg.cell h.c0 ne,hg.cell h.c1 ne,hg.cell h.c2 ne,fun i=>(gr_frozen hg h.lt ne).trans (h.f i),Nat.lt_of_lt_of_le h.lt hg.size⟩
theorem Bx2.gr {w w':World}{b:Nat}{v0 v1:Value}{row:Option Nat}(h:Bx2 w b v0 v1)(hg:w.grownBy w' row)(hr:∀k,row=some k ->k≠b):Bx2 w' b v0 v1:=
 have ne:some b≠row:=fun e=>hr b e.symm rfl
 ⟨hg.cell h.c0 ne,hg.cell h.c1 ne,fun i=>(gr_frozen hg h.lt ne).trans (h.f i),Nat.lt_of_lt_of_le h.lt hg.size⟩
theorem below_gr {w w':World}(b:Below w.heap.size w w')(row:Option Nat):w.grownBy w' row:=⟨b.os,b.tape,b.output,b.size,fun k hk _=>b.block k hk⟩
structure JB (w:World)(s t:Nat)(a0 a1 a2 b0 b1 b2:Option Nat)(x0:Nat×Nat):Prop where
 a:Bx3 w s (.map a0) (.map a1) (.map a2)
 b:Bx3 w (s+1) (.map b0) (.map b1) (.map b2)
 r:Bx2 w (s+1+1) (.map none) (.map none)
 j:Bx2 w t (.map (some x0.1)) (.map (some x0.2))
section
variable {w w' : World} {s t : Nat} {a0 a1 a2 b0 b1 b2 : Option Nat} {x0 : Nat × Nat}
theorem JB.gr {row:Option Nat}(h:JB w s t a0 a1 a2 b0 b1 b2 x0)(hg:w.grownBy w' row)(hr:∀k,row=some k ->k≠s/\ k≠s+1/\ k≠s+1+1/\ k≠t):JB w' s t a0 a1 a2 b0 b1 b2 x0:=
 ⟨h.a.gr hg (fun k e=>(hr k e).1),h.b.gr hg (fun k e=>(hr k e).2.1),h.r.gr hg (fun k e=>(hr k e).2.2.1),h.j.gr hg (fun k e=>(hr k e).2.2.2)⟩
theorem JB.below (h:JB w s t a0 a1 a2 b0 b1 b2 x0)(hb:Below w.heap.size w w'):JB w' s t a0 a1 a2 b0 b1 b2 x0:=h.gr (below_gr hb none) (fun k e=>by cases e)
end
section
variable {w w' : World} {B c : Nat} {N : List Ky -> Option (Nat × Nat)} {M : List Ky -> Dt -> Option ByteArray}
theorem Tre.lower {B':Nat}(h:Tre w B N M c)(hB:B'<=B):Tre w B' N M c:=⟨h.kids,h.marks,h.apart,fun p x hx=>by have:=h.lo p x hx;omega,h.none',h.up⟩
theorem Tre.mo_marks (h:Tre w B N M c)(z:List Ky):MO w 58 dtV mrkV (mS (N z)) c (M z):=by
 cases e:N z with
 | none=>exact fun x=>by rw [h.none' z e]
 | some x=>exact h.marks z x e
theorem Tre.mo_kids (h:Tre w B N M c)(z:List Ky):MO w 114 keyV nodV (mF (N z)) c (fun y=>N (z++[y])):=by
 cases e:N z with
 | none=>exact fun x=>h.up z x e
 | some x=>exact h.kids z x e
end
section
variable {w w' : World} {B c : Nat} {J : List Lf} {z : List Ky} {K : Ky -> Prop} {N N1 : List Ky -> Option (Nat × Nat)} {x0 x1 : Nat × Nat}
theorem JT.congr {K':Ky ->Prop}(h:JT w B J z K N c x0)(hK:∀u,K u↔K' u):JT w B J z K' N c x0:=by
 have:K=K':=funext fun u=>propext (hK u);rw [<- this];exact h
theorem JT.mono {c':Nat}(h:JT w B J z K N c x0)(hc:c<=c'):JT w B J z K N c' x0:=⟨h.tre.mono hc,h.root,h.there⟩
theorem JT.below (h:JT w B J z K N c x0)(hb:Below w.heap.size w w'):JT w' B J z K N c x0:=⟨h.tre.below hb,h.root,h.there⟩
theorem JT.kept' {r:Nat}(h:JT w B J z K N c x0)(hg:w.grownBy w' (some r))(hr:∀es cl,w.heap[r]? ≠some (.map es cl)):JT w' B J z K N c x0:=
 ⟨h.tre.same fun p x hx=>⟨hg.block _ (h.tre.lt hx).1 (fun e=>by obtain⟨es,cl,ho⟩:=(h.tre.kids p x hx).obj;injection e with e;rw [e] at ho;exact hr es cl ho),hg.block _ (h.tre.lt hx).2 (fun e=>by obtain⟨es,cl,ho⟩:=(h.tre.marks p x hx).obj;injection e with e;rw [e] at ho;exact hr es cl ho)⟩,h.root,h.there⟩
theorem JT.round {w8 w9 w10:World}{y:Ky}(h:JT w8 B J z K N c x0)(b9:Below w8.heap.size w8 w9)(h1:JF w9 w8.heap.size J (z++[y]) N1 c x1)(hB:B<=w8.heap.size)(hy:¬K y)(hg:w9.grownBy w10 (some x0.1))
  (hm:Bears (fun u=>N1 [u]) (Mk J J.length (z++[y])) ->MapF w10 114 keyV nodV x0.1 (c+1) (updF (fun u=>N [u]) y (some x1))) (hn:¬Bears (fun u=>N1 [u]) (Mk J J.length (z++[y])) ->Below w9.heap.size w9 w10):
  ∃N',JT w10 B J z (fun u=>K u \/u=y) N' (c+1) x0:=by
 by_cases e:Bears (fun u=>N1 [u]) (Mk J J.length (z++[y]))
 ·refine⟨_,(h.below b9).hang ⟨h1.tre.lower hB,h1.root,h1.there⟩ hy (h1.bears.2 e) (fun p q a b ha hb=> ?_) hg ((hm e).ext fun u=> ?_)⟩
  ·have g1:=h.tre.lt ha;have g2:=h1.tre.lo q b hb;omega
  ·unfold updF;by_cases e:u=y<;>simp [e]
 ·exact⟨N,((h.below b9).skip hy (fun ha=>e (h1.bears.1 ha))).below (hn e)|>.mono (Nat.le_succ _)⟩
end
theorem JB.sees {w:World}{s t u:Nat}{a0 a1 a2 b0 b1 b2:Option Nat}{x0:Nat×Nat}{ks:ByteArray}{kk:Int}(h:JB w s t a0 a1 a2 b0 b1 b2 x0)(hk:Bx2 w u (.string ks) (.int .i64 kk)):
  w.cell? ⟨t,0,none⟩=some (.map (some x0.1))/\ w.cell? ⟨t,1,none⟩=some (.map (some x0.2))/\ w.cell? ⟨u,0,none⟩=some (.string ks)/\ w.cell? ⟨u,1,none⟩=some (.int .i64 kk)/\ w.cell? ⟨s,0,none⟩=some (.map a0)/\ w.cell? ⟨s,1,none⟩=some (.map a1)/\ w.cell? ⟨s,2,none⟩=some (.map a2)/\ w.cell? ⟨s+1,0,none⟩=some (.map b0)/\ w.cell? ⟨s+1,1,none⟩=some (.map b1)/\ w.cell? ⟨s+1,2,none⟩=some (.map b2):=
 ⟨h.j.c0,h.j.c1,hk.c0,hk.c1,h.a.c0,h.a.c1,h.a.c2,h.b.c0,h.b.c1,h.b.c2⟩
open Go.Deep
noncomputable def cDR (g:Lf ->Prop)(l P:List Lf)(j k:Nat):List Rn:=unF [] ((goL g (l.take j)).map dtR++(P.take k).map dtR)
def cNR (S:Sx)(P:List Lf)(k:Nat):List Rn:=unF (flat S.R S.F S.T S.n) ((P.take k).map dtR)
noncomputable def cNL (g:Lf ->Prop)(l P:List Lf)(j k:Nat):List Lf:=(P.take k).foldl (fun o y=>insL y o) (stL g (l.take j))
noncomputable def cDL (P:List Lf)(k:Nat):List Lf:=(P.take k).foldl (fun o y=>insL y o) []
theorem take_gL {l:List Lf}{j:Nat}(h:j<l.length):l.take (j+1)=l.take j++[gL l j]:=by
 rw [List.take_add_one,List.getElem?_eq_getElem h];simp [gL,List.getD,h]
theorem take_mem {l:List Lf}{j:Nat}{x:Lf}(h:x∈l.take j):x∈l:=List.mem_of_mem_take h
section
variable {g : Lf -> Prop} {l P : List Lf} {j k : Nat}
theorem goL_t (h:j<l.length)(hg:g (gL l j)):goL g (l.take (j+1))=goL g (l.take j)++[gL l j]:=by
 unfold goL;rw [take_gL h,List.filter_append];congr 1;simp [yes_t hg]
theorem goL_f (h:j<l.length)(hg:¬g (gL l j)):goL g (l.take (j+1))=goL g (l.take j):=by
 unfold goL;rw [take_gL h,List.filter_append];simp [yes_f hg]
theorem stL_t (h:j<l.length)(hg:g (gL l j)):stL g (l.take (j+1))=stL g (l.take j):=by
 unfold stL;rw [take_gL h,List.filter_append];simp [yes_t hg]
theorem stL_f (h:j<l.length)(hg:¬g (gL l j)):stL g (l.take (j+1))=stL g (l.take j)++[gL l j]:=by
 unfold stL;rw [take_gL h,List.filter_append];congr 1;simp [yes_f hg]
theorem cDR_go (h:j<l.length)(hg:g (gL l j)):cDR g l P (j+1) 0=ins (cDR g l P j 0) (dtR (gL l j)):=by
 unfold cDR;rw [goL_t h hg,List.take_zero,List.map_append,List.map_nil,List.append_nil,List.append_nil];exact unF_snoc _ _ _
theorem cDR_st (h:j<l.length)(hg:¬g (gL l j)):cDR g l P (j+1) 0=cDR g l P j 0:=by unfold cDR;rw [goL_f h hg]
theorem cNL_go (h:j<l.length)(hg:g (gL l j)):cNL g l P (j+1) 0=cNL g l P j 0:=by unfold cNL;rw [stL_t h hg]
theorem cNL_st (h:j<l.length)(hg:¬g (gL l j)):cNL g l P (j+1) 0=cNL g l P j 0++[gL l j]:=by
 unfold cNL;rw [stL_f h hg,List.take_zero];rfl
theorem cDR_put (h:k<P.length):cDR g l P j (k+1)=ins (cDR g l P j k) (dtR (gL P k)):=by
 unfold cDR;rw [take_gL h,List.map_append,<- List.append_assoc];exact unF_snoc _ _ _
theorem cNR_put {S:Sx}(h:k<P.length):cNR S P (k+1)=ins (cNR S P k) (dtR (gL P k)):=by
 unfold cNR;rw [take_gL h,List.map_append];exact unF_snoc _ _ _
theorem cNL_put (h:k<P.length):cNL g l P j (k+1)=insL (gL P k) (cNL g l P j k):=by
 unfold cNL;rw [take_gL h,List.foldl_append];rfl
theorem cDL_put (h:k<P.length):cDL P (k+1)=insL (gL P k) (cDL P k):=by
 unfold cDL;rw [take_gL h,List.foldl_append];rfl
theorem cDR_end:cDR g l P l.length P.length=dlU g l P:=by unfold cDR dlU;rw [List.take_length,List.take_length]
theorem cNR_end {S:Sx}:cNR S P P.length=nxU S P:=by unfold cNR nxU;rw [List.take_length]
theorem cNL_end:cNL g l P l.length P.length=nxL g l P:=by unfold cNL nxL;rw [List.take_length,List.take_length]
theorem cDL_end (h:P.length<=1):cDL P P.length=P:=by
 unfold cDL;rw [List.take_length];match P,h with
 | [],_=>rfl
 | [y],_=>rfl
 | _::_::_,h=>simp at h
theorem fold_len:∀(P o:List Lf),(P.foldl (fun o y=>insL y o) o).length=o.length+P.length
 | [],o=>rfl
 | y::P,o=>by rw [List.foldl_cons,fold_len P,insL_len,List.length_cons];omega
theorem cNL_len:(cNL g l P j k).length<=l.length+P.length:=by
 unfold cNL;rw [fold_len];have h1:(stL g (l.take j)).length<=(l.take j).length:=List.length_filter_le _ _;rw [List.length_take] at h1 ⊢;omega
theorem cDL_len:(cDL P k).length<=P.length:=by
 unfold cDL;rw [fold_len,List.length_take,List.length_nil];omega
theorem cDR_len:(cDR g l P j k).length<=l.length+P.length:=by
 have h0:=unF_len ((goL g (l.take j)).map dtR++(P.take k).map dtR) [];have h1:(goL g (l.take j)).length<=(l.take j).length:=List.length_filter_le _ _;rw [List.length_append,List.length_map,List.length_map,List.length_take,List.length_nil] at h0;rw [List.length_take] at h1;show (unF [] _).length<=_;omega
theorem cNR_len {S:Sx}:(cNR S P k).length<=S.n+P.length:=by
 have h0:=unF_len ((P.take k).map dtR) (flat S.R S.F S.T S.n);rw [List.length_map,List.length_take,flatR_len] at h0;show (unF _ _).length<=_;omega
theorem cNL_mem {z:Lf}(h:z∈cNL g l P j k):z∈l \/z∈P:=by
 unfold cNL at h;rcases (nxL_mem (l:=l)).1 h with h|h
 ·exact .inl (take_mem (stL_mem.1 h).1)
 ·exact .inr (take_mem h)
theorem cDL_mem {z:Lf}(h:z∈cDL P k):z∈P:=by
 unfold cDL at h;rcases (nxL_mem (l:=P)).1 h with h|h
 ·cases h
 ·exact take_mem h
end
section
variable {g : Lf -> Prop} {S : Sx} {P : List Lf}
theorem cDR_ok (h:StOk S.R S.F S.T S.n S.l)(hp:PtO S P)(j k:Nat):FSrt (cDR g S.l P j k):=(unF_ok _ [] fs_nil (fun p hq=>by
 refine dl_rok (g:=g) h hp p ?_;rcases List.mem_append.1 hq with hq|hq
 ·obtain⟨x,hx,rfl⟩:=List.mem_map.1 hq;exact List.mem_append.2 (.inl (List.mem_map.2 ⟨x,goL_mem.2 ⟨take_mem (goL_mem.1 hx).1,(goL_mem.1 hx).2⟩,rfl⟩))
 ·obtain⟨x,hx,rfl⟩:=List.mem_map.1 hq;exact List.mem_append.2 (.inr (List.mem_map.2 ⟨x,take_mem hx,rfl⟩)))).1
theorem cNR_ok (h:StOk S.R S.F S.T S.n S.l)(hp:PtO S P)(k:Nat):FSrt (cNR S P k):=(unF_ok _ _ (flat_srt S.n (ok_okTo h)) (fun p hq=>by
 obtain⟨x,hx,rfl⟩:=List.mem_map.1 hq;exact hp.dot x (take_mem hx))).1
theorem pth_of {l:List Lf}(h:∀z∈l,1<=z.p.length/\ z.p.length<=8):∀i,i<l.length ->1<=(gL l i).p.length/\ (gL l i).p.length<=8:=fun i hi=>h _ (gL_mem.2 ⟨i,hi,rfl⟩)
theorem ok_pm (h:StOk S.R S.F S.T S.n S.l):∀z∈S.l,1<=z.p.length/\ z.p.length<=8:=fun z hz=>by
 obtain⟨j,hj,e⟩:=gL_mem.1 hz;have:=(h.2.2.1 j hj).1;rw [e] at this;exact⟨this.1.1,this.1.2.1⟩
theorem PtO.pm (hp:PtO S P):∀z∈P,1<=z.p.length/\ z.p.length<=8:=fun z hz=>⟨(hp.ok z hz).1.1,(hp.ok z hz).1.2.1⟩
theorem cNL_pth (h:StOk S.R S.F S.T S.n S.l)(hp:PtO S P)(j k:Nat):∀i,i<(cNL g S.l P j k).length ->1<=(gL (cNL g S.l P j k) i).p.length/\ (gL (cNL g S.l P j k) i).p.length<=8:=pth_of fun z hz=>by
 rcases cNL_mem hz with hz|hz
 ·exact ok_pm h z hz
 ·exact hp.pm z hz
theorem cDL_pth (hp:PtO S P)(k:Nat):∀i,i<(cDL P k).length ->1<=(gL (cDL P k) i).p.length/\ (gL (cDL P k) i).p.length<=8:=pth_of fun z hz=>hp.pm z (cDL_mem hz)
end
theorem mk_at {w:World}{lo g c:Nat}{ra:Option Addr}{rc:Nat}{l:List Lf}{u:List Rn}{P Q:Nat ->Nat}(h:LC w lo (.slice (some ⟨g,0,none⟩) l.length c) l P Q)(hf:FR w lo (.slice ra u.length rc) u):SNc w lo (some ⟨g,0,none⟩) ra (mkS l u):=fun w' h1 h2=>by
 have hL:=h.move h1 h2;have hF:FR w' lo (.slice ra u.length rc) u:=own_at5 hf (fun q hq=>h2 q (World.ownsRow.lt hf q hq).1 (World.ownsRow.lt hf q hq).2);obtain⟨a,c',e,s,_,_⟩:=hF.fs;injection e with e1 e2 e3;subst e1;exact⟨hL.lcap rfl,s.rseg⟩
structure CS (w wr:World)(t1 t2:Nat)(va0 va1:Value)(gD cD:Nat)(DL:List Lf)(DP DQ:Nat ->Nat)(vr1:Value)(DU:List Rn)(gN cN:Nat)(NL:List Lf)(NP NQ:Nat ->Nat)(vr2:Value)(NU:List Rn):Prop where
 low:Below w.heap.size w wr
 a:Bx2 wr w.heap.size va0 va1
 r1:Bx2 wr (w.heap.size+1) (.slice none 0 0) (.slice none 0 0)
 r2:Bx2 wr (w.heap.size+1+1) (.slice none 0 0) (.slice none 0 0)
 d:Bx2 wr t1 (.slice (some ⟨gD,0,none⟩) DL.length cD) vr1
 n:Bx2 wr t2 (.slice (some ⟨gN,0,none⟩) NL.length cN) vr2
 ld:LC wr (w.heap.size+3) (.slice (some ⟨gD,0,none⟩) DL.length cD) DL DP DQ
 ln:LC wr (w.heap.size+3) (.slice (some ⟨gN,0,none⟩) NL.length cN) NL NP NQ
 fd:FR wr (w.heap.size+3) vr1 DU
 fn:FR wr (w.heap.size+3) vr2 NU
 h1:w.heap.size+3<=t1
 h2:w.heap.size+3<=t2
 h12:t1≠t2
 sd:gD≠t1/\ gD≠t2/\ gD≠gN
 sn:gN≠t1/\ gN≠t2
 s1:∀b,vr1.ownBlock=some b ->b≠t1/\ b≠t2/\ b≠gN
 s2:∀b,vr2.ownBlock=some b ->b≠t1/\ b≠t2/\ b≠gN
 pd:∀i,i<DL.length ->DP i≠t1/\ DP i≠t2
 pn:∀i,i<NL.length ->NP i≠t1/\ NP i≠t2
section
variable {w wr w1 : World} {t1 t2 : Nat} {va0 va1 : Value} {gD cD : Nat} {DL : List Lf} {DP DQ : Nat -> Nat} {vr1 : Value} {DU : List Rn} {gN cN : Nat} {NL : List Lf} {NP NQ : Nat -> Nat} {vr2 : Value} {NU : List Rn}
theorem CS.below (h:CS w wr t1 t2 va0 va1 gD cD DL DP DQ vr1 DU gN cN NL NP NQ vr2 NU)(hb:Below wr.heap.size wr w1):CS w w1 t1 t2 va0 va1 gD cD DL DP DQ vr1 DU gN cN NL NP NQ vr2 NU:=
 ⟨h.low.trans (hb.mono h.low.size),h.a.below hb h.a.lt,h.r1.below hb h.r1.lt,h.r2.below hb h.r2.lt,h.d.below hb h.d.lt,h.n.below hb h.n.lt,h.ld.below hb,h.ln.below hb,h.fd.below hb,h.fn.below hb,h.h1,h.h2,h.h12,h.sd,h.sn,h.s1,h.s2,h.pd,h.pn⟩
theorem ob_some {a b:Nat}{n c:Nat}(h:a≠b):(Value.slice (some ⟨a,0,none⟩) n c).ownBlock≠some b:=fun e=>h (by simpa [Value.ownBlock] using e)
theorem CS.setD1 {v:Value}{U:List Rn}(h:CS w wr t1 t2 va0 va1 gD cD DL DP DQ vr1 DU gN cN NL NP NQ vr2 NU)(hb:Below wr.heap.size wr w1)(hf:FR w1 wr.heap.size v U):CS w (w1.setCell ⟨t1,1,none⟩ v) t1 t2 va0 va1 gD cD DL DP DQ v U gN cN NL NP NQ vr2 NU:=by
 have k:=h.below hb;have l1:=h.d.lt;have l2:=h.n.lt;have l3:=(h.ln.row.lt gN rfl).2;have l4:=h.h1;have nv:∀b,v.ownBlock=some b ->wr.heap.size<=b:=fun b e=>(World.ownsRow.lt hf b e).1;refine⟨k.low.setCell (by show w.heap.size<=t1;omega) _,k.a.setAt _ _ (by show t1≠w.heap.size;omega),k.r1.setAt _ _ (by show t1≠w.heap.size+1;omega),k.r2.setAt _ _ (by show t1≠w.heap.size+1+1;omega),k.d.set1 _,k.n.setAt _ _ h.h12,k.ld.set _ _ (ob_some h.sd.1) (fun i hi=>(h.pd i hi).1),k.ln.set _ _ (ob_some h.sn.1) (fun i hi=>(h.pn i hi).1),(hf.weak (by omega)).setFar _ _ (fun e=>by have:=nv _ e;have:wr.heap.size<=t1:=this;omega),k.fn.setFar _ _ (fun e=>(h.s2 _ e).1 rfl),h.h1,h.h2,h.h12,h.sd,h.sn,fun b e=> ?_,h.s2,h.pd,h.pn⟩;have:=nv b e;exact⟨by omega,by omega,by omega⟩
theorem CS.setN1 {v:Value}{U:List Rn}(h:CS w wr t1 t2 va0 va1 gD cD DL DP DQ vr1 DU gN cN NL NP NQ vr2 NU)(hb:Below wr.heap.size wr w1)(hf:FR w1 wr.heap.size v U):CS w (w1.setCell ⟨t2,1,none⟩ v) t1 t2 va0 va1 gD cD DL DP DQ vr1 DU gN cN NL NP NQ v U:=by
 have k:=h.below hb;have l1:=h.d.lt;have l2:=h.n.lt;have l3:=(h.ln.row.lt gN rfl).2;have l4:=h.h2;have nv:∀b,v.ownBlock=some b ->wr.heap.size<=b:=fun b e=>(World.ownsRow.lt hf b e).1;refine⟨k.low.setCell (by show w.heap.size<=t2;omega) _,k.a.setAt _ _ (by show t2≠w.heap.size;omega),k.r1.setAt _ _ (by show t2≠w.heap.size+1;omega),k.r2.setAt _ _ (by show t2≠w.heap.size+1+1;omega),k.d.setAt _ _ (Ne.symm h.h12),k.n.set1 _,k.ld.set _ _ (ob_some h.sd.2.1) (fun i hi=>(h.pd i hi).2),k.ln.set _ _ (ob_some h.sn.2) (fun i hi=>(h.pn i hi).2),k.fd.setFar _ _ (fun e=>(h.s1 _ e).2.1 rfl),(hf.weak (by omega)).setFar _ _ (fun e=>by have:=nv _ e;have:wr.heap.size<=t2:=this;omega),h.h1,h.h2,h.h12,h.sd,h.sn,h.s1,fun b e=> ?_,h.pd,h.pn⟩;have:=nv b e;exact⟨by omega,by omega,by omega⟩
theorem lc_box {g n c:Nat}{l:List Lf}{P Q:Nat ->Nat}{lo t:Nat}{n0 c0:Nat}{a0:Option Addr}{u:Value}(h:LC w lo (.slice (some ⟨g,0,none⟩) n c) l P Q)(hp:∀i,i<l.length ->1<=(gL l i).p.length)(hb:Bx2 w t (.slice a0 n0 c0) u):∀i,i<l.length ->P i≠t:=fun i hi e=>by
 have hw:=(h.pt i hi).2.2.2.1.cell (i:=0) (by have:=hp i hi;omega);rw [e,hb.c0] at hw;cases hw
theorem CS.setD0 {g2 c2 n2:Nat}{l2:List Lf}{P2 Q2:Nat ->Nat}(h:CS w wr t1 t2 va0 va1 gD cD DL DP DQ vr1 DU gN cN NL NP NQ vr2 NU)(hb:Below wr.heap.size wr w1)(hl:LC w1 (w.heap.size+3) (.slice (some ⟨g2,0,none⟩) n2 c2) l2 P2 Q2)(hn:n2=l2.length)(hg:wr.heap.size<=g2)(hp:∀i,i<l2.length ->1<=(gL l2 i).p.length):CS w (w1.setCell ⟨t1,0,none⟩ (.slice (some ⟨g2,0,none⟩) n2 c2)) t1 t2 va0 va1 g2 c2 l2 P2 Q2 vr1 DU gN cN NL NP NQ vr2 NU:=by
 subst hn;have k:=h.below hb;have l1:=h.d.lt;have l3:=h.n.lt;have l5:=(h.ln.row.lt gN rfl).2;have l4:=h.h1;have q1:=lc_box hl hp k.d;have q2:=lc_box hl hp k.n;exact⟨k.low.setCell (by show w.heap.size<=t1;omega) _,k.a.setAt _ _ (by show t1≠w.heap.size;omega),k.r1.setAt _ _ (by show t1≠w.heap.size+1;omega),k.r2.setAt _ _ (by show t1≠w.heap.size+1+1;omega),k.d.set0 _,k.n.setAt _ _ h.h12,hl.set _ _ (ob_some (show g2≠t1 by omega)) q1,k.ln.set _ _ (ob_some h.sn.1) (fun i hi=>(h.pn i hi).1),k.fd.setFar _ _ (fun e=>(h.s1 _ e).1 rfl),k.fn.setFar _ _ (fun e=>(h.s2 _ e).1 rfl),h.h1,h.h2,h.h12,⟨by omega,by omega,by omega⟩,h.sn,h.s1,h.s2,fun i hi=>⟨q1 i hi,q2 i hi⟩,h.pn⟩
theorem CS.setN0 {g2 c2 n2:Nat}{l2:List Lf}{P2 Q2:Nat ->Nat}(h:CS w wr t1 t2 va0 va1 gD cD DL DP DQ vr1 DU gN cN NL NP NQ vr2 NU)(hb:Below wr.heap.size wr w1)(hl:LC w1 (w.heap.size+3) (.slice (some ⟨g2,0,none⟩) n2 c2) l2 P2 Q2)(hn:n2=l2.length)(hg:wr.heap.size<=g2)(hp:∀i,i<l2.length ->1<=(gL l2 i).p.length):CS w (w1.setCell ⟨t2,0,none⟩ (.slice (some ⟨g2,0,none⟩) n2 c2)) t1 t2 va0 va1 gD cD DL DP DQ vr1 DU g2 c2 l2 P2 Q2 vr2 NU:=by
 subst hn;have k:=h.below hb;have l1:=h.d.lt;have l3:=h.n.lt;have l5:=(h.ld.row.lt gD rfl).2;have l4:=h.h2;have q1:=lc_box hl hp k.d;have q2:=lc_box hl hp k.n;refine⟨k.low.setCell (by show w.heap.size<=t2;omega) _,k.a.setAt _ _ (by show t2≠w.heap.size;omega),k.r1.setAt _ _ (by show t2≠w.heap.size+1;omega),k.r2.setAt _ _ (by show t2≠w.heap.size+1+1;omega),k.d.setAt _ _ (Ne.symm h.h12),k.n.set0 _,k.ld.set _ _ (ob_some h.sd.2.1) (fun i hi=>(h.pd i hi).2),hl.set _ _ (ob_some (show g2≠t2 by omega)) q2,k.fd.setFar _ _ (fun e=>(h.s1 _ e).2.1 rfl),k.fn.setFar _ _ (fun e=>(h.s2 _ e).2.1 rfl),h.h1,h.h2,h.h12,⟨h.sd.1,h.sd.2.1,by omega⟩,⟨by omega,by omega⟩,fun b e=> ?_,fun b e=> ?_,h.pd,fun i hi=>⟨q1 i hi,q2 i hi⟩⟩
 ·have:=(World.ownsRow.lt h.fd b e).2;exact⟨(h.s1 b e).1,(h.s1 b e).2.1,by omega⟩
 ·have:=(World.ownsRow.lt h.fn b e).2;exact⟨(h.s2 b e).1,(h.s2 b e).2.1,by omega⟩
theorem CS.appN {y:Lf}{p pc:Nat}(h:CS w wr t1 t2 va0 va1 gD cD [] DP DQ vr1 DU gN cN NL NP NQ vr2 NU)(hb:Below wr.heap.size wr w1)(hk:NL.length<=1048576)(hy:1<=y.p.length)(hp:∀i,i<NL.length ->1<=(gL NL i).p.length)(hp1:wr.heap.size<=p)(hp2:p<w1.heap.size)(hw:Wr w1 p 9 y.p.length (fun t=> .string (gS y.p t)))(hpc:y.p.length<=pc/\ pc<=9223372036854775807):
  ∃q' Ha w3,(Builtin.append_ #[23,23] 23 #[.slice (some ⟨gN,0,none⟩) NL.length cN,.slice (some ⟨w1.heap.size,0,none⟩) 1 1]).run Tryz.prog (w1.alloc (.cells #[.slice (some ⟨p,0,none⟩) y.p.length pc,.bool y.fl,.int .i64 y.r,.int .i64 y.q,.string y.v] 60))=.ok (.slice (some ⟨q',0,none⟩) (NL.length+1) Ha) w3/\ Below w.heap.size w w3/\ Bx2 w3 w.heap.size va0 va1/\ Bx2 w3 t2 (.slice (some ⟨gN,0,none⟩) NL.length cN) vr2/\
   ∃P' Q',CS w (w3.setCell ⟨t2,0,none⟩ (.slice (some ⟨q',0,none⟩) (NL.length+1) Ha)) t1 t2 va0 va1 gD cD [] DP DQ vr1 DU q' Ha (NL++[y]) P' Q' vr2 NU:=by
 have k:=h.below hb;have hz:=h.low.size;have Hp:=hb.size;have l1:=h.d.lt;have l2:=h.n.lt;have l3:=h.a.lt;have l4:=h.r1.lt;have l5:=h.r2.lt;have l6:=h.ln.row.lt gN rfl;have l7:=h.ld.row.lt gD rfl;have h1:=h.h1;have h2:=h.h2;obtain⟨q',Ha,w3,He,Hb,g3⟩:=h.ln.app hb (by omega) hk y p pc (by omega) hp2 (fun e=>by simp [Value.ownBlock] at e;omega) hw hpc;have hq:q'=gN \/w1.heap.size<=q':=by
  rcases g3.l with e|⟨b,e,Hn⟩
  ·exact .inl (by simpa [Value.ownBlock] using e)
  ·have e3:q'=b:=by simpa [Value.ownBlock] using e
   exact .inr (by omega)
 have Ho:=(Hb.row.lt q' rfl).2;have row:∀b,(Value.slice (some ⟨gN,0,none⟩) NL.length cN).ownBlock=some b ->b=gN:=fun b e=>by
  have:gN=b:=by simpa [Value.ownBlock] using e
  exact this.symm
 have bx:∀{b:Nat} {u0 u1:Value},Bx2 w1 b u0 u1 ->b≠gN ->Bx2 w3 b u0 u1:=fun hB hne=>hB.gr g3.g (fun b e=>by rw [row b e];exact fun e2=>hne e2.symm);have A3:=bx k.a (by omega);have Hk:=bx k.r1 (by omega);have Hl:=bx k.r2 (by omega);have D3:=bx k.d (fun e=>h.sn.1 e.symm);have N3:=bx k.n (fun e=>h.sn.2 e.symm);have Hh:FR w3 (w.heap.size+3) vr1 DU:=k.fd.gr g3.g (fun b e e2=>(h.s1 b e).2.2 (row b e2.symm));have Hi:FR w3 (w.heap.size+3) vr2 NU:=k.fn.gr g3.g (fun b e e2=>(h.s2 b e).2.2 (row b e2.symm));have Hj:LC w3 (w.heap.size+3) (.slice (some ⟨gD,0,none⟩) ([]:List Lf).length cD) [] DP DQ:=⟨own_at5 k.ld.row (fun b e=>by
  have e:gD=b:=by simpa [Value.ownBlock] using e
  subst e;exact g3.g.block gD (by omega) (fun e2=>h.sd.2.2 (row gD e2.symm))),fun i hi=>by simp at hi⟩
 have Hc:Below w.heap.size w w3:=k.low.grown g3.g k.low.size (fun b e=>by rw [row b e];omega);have Hg:∀i,i<(NL++[y]).length ->1<=(gL (NL++[y]) i).p.length:=fun i hi=>by
  by_cases e:i=NL.length
  ·rw [e,gL_end];exact hy
  ·have Hf:i<NL.length:=by simp at hi;omega
   rw [gL_pre NL y Hf];exact hp i Hf
 have q1:=lc_box Hb Hg D3;have q2:=lc_box Hb Hg N3;have Hd:q'≠t1/\ q'≠t2/\ gD≠q':=by
  rcases hq with e|e
  ·rw [e];exact⟨h.sn.1,h.sn.2,h.sd.2.2⟩
  ·exact⟨by omega,by omega,by omega⟩
 have Hm:NL.length+1=(NL++[y]).length:=by simp
 refine⟨q',Ha,w3,He,Hc,A3,N3,(fun i=>if i=NL.length then p else NP i),(fun i=>if i=NL.length then pc else NQ i),?_⟩;rw [Hm] at Hb ⊢;refine⟨Hc.setCell (by show w.heap.size<=t2;omega) _,A3.setAt _ _ (by show t2≠w.heap.size;omega),Hk.setAt _ _ (by show t2≠w.heap.size+1;omega),Hl.setAt _ _ (by show t2≠w.heap.size+1+1;omega),D3.setAt _ _ (Ne.symm h.h12),N3.set0 _,Hj.set _ _ (ob_some h.sd.2.1) (fun i hi=>by simp at hi),Hb.set _ _ (ob_some Hd.2.1) q2,Hh.setFar _ _ (fun e=>(h.s1 _ e).2.1 rfl),Hi.setFar _ _ (fun e=>(h.s2 _ e).2.1 rfl),h.h1,h.h2,h.h12,⟨h.sd.1,h.sd.2.1,Hd.2.2⟩,⟨Hd.1,Hd.2.1⟩,fun b e=>⟨(h.s1 b e).1,(h.s1 b e).2.1,?_⟩,fun b e=>⟨(h.s2 b e).1,(h.s2 b e).2.1,?_⟩,fun i hi=>by simp at hi,fun i hi=>⟨q1 i hi,q2 i hi⟩⟩
 ·have:=(World.ownsRow.lt h.fd b e).2;rcases hq with e2|e2
  ·rw [e2];exact(h.s1 b e).2.2
  ·omega
 ·have:=(World.ownsRow.lt h.fn b e).2;rcases hq with e2|e2
  ·rw [e2];exact(h.s2 b e).2.2
  ·omega
end
def Ow (w:World)(lo:Nat)(l:List Lf)(P Q:Nat ->Nat):Prop:=∀i,i<l.length ->w.ownsRow lo 9 1 (.slice (some ⟨P i,0,none⟩) (gL l i).p.length (Q i)) (gL l i).p.length (sRow (gL l i).p)
structure CpS (w wr:World)(va vx:Value)(g c:Nat)(l:List Lf)(P Q:Nat ->Nat):Prop where
 low:Below w.heap.size w wr
 ab:Bx2 wr w.heap.size va vx
 rb:Bx2 wr (w.heap.size+1) (.slice none 0 0) (.slice none 0 0)
 ob:Bx2 wr (w.heap.size+1+1+1+1) (.slice (some ⟨g,0,none⟩) l.length c) (.slice (some ⟨w.heap.size+1+1+1,0,none⟩) 0 0)
 lc:LC wr (w.heap.size+1+1) (.slice (some ⟨g,0,none⟩) l.length c) l P Q
 q1:g=w.heap.size+1+1 \/w.heap.size+5<=g
 rn:wr.ownsRow (w.heap.size+1+1+1) 96 3 (.slice (some ⟨w.heap.size+1+1+1,0,none⟩) 0 0) 0 []
 pt:∀i,i<l.length ->w.heap.size+5<=P i
 ow:Ow wr (w.heap.size+1+1) l P Q
 sep:Sep P l.length
theorem CpS.below {w wr w':World}{va vx:Value}{g c:Nat}{l:List Lf}{P Q:Nat ->Nat}(h:CpS w wr va vx g c l P Q)(hb:Below wr.heap.size wr w'):CpS w w' va vx g c l P Q:=
 ⟨keepS h.low hb,h.ab.below hb h.ab.lt,h.rb.below hb h.rb.lt,h.ob.below hb h.ob.lt,h.lc.below hb,h.q1,own_at5 h.rn fun g hg=>hb.block g (h.rn.lt g hg).2,h.pt,fun i hi=>own_at5 (h.ow i hi) fun g hg=>hb.block g ((h.ow i hi).lt g hg).2,h.sep⟩
theorem Bx2.grw {w w':World}{b g:Nat}{u0 u1:Value}(h:Bx2 w b u0 u1)(hg:w.grownBy w' (some g))(hne:b≠g):Bx2 w' b u0 u1:=h.gr hg (fun k e=>by injection e with e;omega)
theorem CpS.step {w wr w1:World}{va vx:Value}{g c:Nat}{l:List Lf}{P Q:Nat ->Nat}(h:CpS w wr va vx g c l P Q)(hb:Below wr.heap.size wr w1)(hk:l.length<=1048576)(y:Lf)(p pc:Nat)(hp1:wr.heap.size<=p)(hp2:p<w1.heap.size)(hw:Wr w1 p 9 y.p.length (fun t=> .string (gS y.p t)))(hpc:y.p.length<=pc/\ pc<=9223372036854775807)(ho:w1.ownsRow wr.heap.size 9 1 (.slice (some ⟨p,0,none⟩) y.p.length pc) y.p.length (sRow y.p)):
  ∃q' Ha w3,(Builtin.append_ #[23,23] 23 #[.slice (some ⟨g,0,none⟩) l.length c,.slice (some ⟨w1.heap.size,0,none⟩) 1 1]).run Tryz.prog (w1.alloc (.cells #[.slice (some ⟨p,0,none⟩) y.p.length pc,.bool y.fl,.int .i64 y.r,.int .i64 y.q,.string y.v] 60))=.ok (.slice (some ⟨q',0,none⟩) (l.length+1) Ha) w3/\
   Below w.heap.size w w3/\ Bx2 w3 w.heap.size va vx/\ Bx2 w3 (w.heap.size+1+1+1+1) (.slice (some ⟨g,0,none⟩) l.length c) (.slice (some ⟨w.heap.size+1+1+1,0,none⟩) 0 0)/\
   ∃q cap P Q,CpS w (w3.setCell ⟨w.heap.size+1+1+1+1,0,none⟩ (.slice (some ⟨q',0,none⟩) (l.length+1) Ha)) va vx q cap (l++[y]) P Q:=by
 have Hi:=h.ob.lt;have h1:=h.below hb;obtain⟨q',Ha,w3,hr,Hg,gr⟩:=h.lc.app hb (by omega) hk y p pc (by omega) hp2 (fun e=>by have:=(h.lc.lt p e.symm).2;omega) hw hpc;have gg:w1.grownBy w3 (some g):=gr.g;have Hj:=h.q1;have Hh:=(h.lc.lt g rfl).2;have Hk:=hb.size;have Hl:=gg.size;have hq:q'=g \/w1.heap.size<=q':=by
  rcases gr.l with e|⟨q,e,hq⟩
  ·exact .inl (by simpa [Value.ownBlock] using e)
  ·have e:q'=q:=by simpa [Value.ownBlock] using e
   exact .inr (by omega)
 have Hb:∀b,b<w1.heap.size ->b≠g ->w3.heap[b]? =w1.heap[b]? :=fun b h1 h2=>gg.block b h1 (fun e=>h2 (by injection e));have A3:=h1.ab.grw gg (by omega);have R3:=h1.rb.grw gg (by omega);have O3:=h1.ob.grw gg (by omega);have He:Below w.heap.size w w3:=h1.low.grown gg h1.low.size (fun k e=>by injection e with e;omega);have hP:∀i,i<(l++[y]).length ->w.heap.size+5<=(if i=l.length then p else P i)/\ (if i=l.length then p else P i)<w3.heap.size:=fun i hi=>by
  by_cases e:i=l.length
  ·rw [if_pos e];exact⟨by omega,by omega⟩
  ·rw [if_neg e];have Hc:i<l.length:=by simp at hi;omega
   have:=(h.lc.pt i Hc).2.1;exact⟨h.pt i Hc,by omega⟩
 have Hd:∀b,b≠w.heap.size+1+1+1+1 ->(w3.setCell ⟨w.heap.size+1+1+1+1,0,none⟩ (.slice (some ⟨q',0,none⟩) (l.length+1) Ha)).heap[b]? =w3.heap[b]? :=fun b hb2=>zH _ _ _ _ (by simpa using hb2);have Hf:(l++[y]).length=l.length+1:=by simp
 refine⟨q',Ha,w3,hr,He,A3,O3,q',Ha,(fun i=>if i=l.length then p else P i),(fun i=>if i=l.length then pc else Q i),He.setCell (by simp;omega) _,A3.setAt _ _ (by simp;omega),R3.setAt _ _ (by simp;omega),?_,?_,by omega,?_,fun i hi=>(hP i hi).1,fun i hi=> ?_,?_⟩
 ·rw [Hf];exact O3.set0 _
 ·rw [Hf];exact Hg.set _ _ (fun e=>by have e:=own_eq e;simp only at e;omega) (fun i hi=>by have:=(hP i hi).1;simp only;omega)
 ·refine own_at5 h1.rn (fun b hb2=> ?_);have e:w.heap.size+1+1+1=b:=by simpa [Value.ownBlock] using hb2
  exact(Hd b (by omega)).trans (Hb b (by omega) (by omega))
 ·by_cases e:i=l.length
  ·subst e;simp only [if_pos];rw [gL_end];refine own_weak5 (own_at5 ho (fun b hb2=> ?_)) (by omega);have e:p=b:=by simpa [Value.ownBlock] using hb2
   exact(Hd b (by omega)).trans (Hb b (by omega) (by omega))
  ·have Hc:i<l.length:=by simp at hi;omega
   simp only [if_neg e];rw [gL_pre l y Hc];refine own_at5 (h1.ow i Hc) (fun b hb2=> ?_);have e:P i=b:=by simpa [Value.ownBlock] using hb2
   obtain⟨_,a2,a3,_⟩:=h.lc.pt i Hc;have:=h.pt i Hc;exact(Hd b (by omega)).trans (Hb b (by omega) (fun e2=>a3 (by simp [Value.ownBlock];omega)))
 ·rw [Hf];exact h.sep.app (fun i hi=>by have:=(h.lc.pt i hi).2.1;omega)
theorem appRuns {wr:World}{B q n d:Nat}{x:Option Addr}{R F T:Nat ->Int}(ho:wr.ownsRow B 96 3 (.slice (some ⟨q,0,none⟩) 0 0) 0 [])(hB:B<=wr.heap.size)(hn:n<=1048576)(h:RSeg wr x n R F T):
  ∃gx cx w5,(Builtin.append_ #[24,24] 24 #[.slice (some ⟨q,0,none⟩) 0 0,.slice x n d]).run Tryz.prog wr=.ok (.slice (some ⟨gx,0,none⟩) n cx) w5/\ FR w5 B (.slice (some ⟨gx,0,none⟩) n cx) (flat R F T n)/\ wr.grownBy w5 (some q)/\ (gx=q \/gx=wr.heap.size)/\ (0<n ->gx=wr.heap.size):=by
 obtain⟨i0,Ha,Hf,Hg,Hh⟩:=info_parts Tryz.infoRun;have fl:(flat R F T n).length=n:=flatR_len _ _ _ _;rcases x with _|b
 ·obtain rfl:n=0:=by
   rcases h with h|⟨_,_,e,_⟩
   ·exact h
   ·cases e
  refine⟨q,0,wr,run_app_nil wr _ _ _ i0 Tryz.underlying24 Ha _ 0 0 d zL,?_,⟨rfl,rfl,rfl,Nat.le_refl _,fun _ _ _=>rfl⟩,.inl rfl,fun h=>by omega⟩;simpa [FR,flat,fCells] using ho
 ·have Hd:∀j u,(fCells (flat R F T n))[j]? =some u ->wr.cell? (b.add j)=some u:=by
   rcases h with rfl|⟨g,o,e,hg,hc⟩
   ·intro j u hj;simp [flat,fCells] at hj
   ·injection e with e;subst e;exact rseg_cells (.inr ⟨g,o,rfl,hg,hc⟩)
  have h1:∀u∈fCells (flat R F T n),u.oneCell'=true:=fun u hu=>by
   obtain⟨j,hj⟩:=List.getElem?_of_mem hu;rcases (fCells_at _ j u hj).2 with ⟨_,e⟩|⟨_,e⟩|⟨_,e⟩<;>rw [e]<;>rfl
  have hl:(fCells (flat R F T n)).length=n*3:=by rw [fCells_len,fl]
  obtain⟨v',w5,hr,g2,g3,g4,g5⟩:=run_append_own_at (P:=Tryz.prog) wr B 24 24 96 i0 _ 3 24 Tryz.underlying24 Ha Hf Hg Hh rfl (by decide) (.slice (some ⟨q,0,none⟩) 0 0) 0 [] ho b n d _ hl Hd h1 (by unfold maxLen;omega) (by omega) hB;rcases g2.2 with ⟨hv,_⟩|⟨gx,cx,Hi,hv,r⟩
  ·have:=g4.1 hv;exact absurd this.1 (by simp)
  rw [hv] at hr g2 g5;rw [Nat.zero_add] at hr g2;refine⟨gx,cx,w5,hr,?_,g3,?_,fun h0=> ?_⟩
  ·show w5.ownsRow B 96 3 _ (flat R F T n).length (fCells (flat R F T n));rw [fl];simpa using g2
  ·rcases g5 with g5|g5
   ·exact .inl (by simpa [Value.ownBlock] using g5)
   ·exact .inr (by simpa [Value.ownBlock] using g5)
  ·have Hb:(Builtin.firstCells i0.size 0 (.slice (some ⟨q,0,none⟩) 0 0)).run Tryz.prog wr.drew=.ok #[] wr.drew:=run_firstCells_some (P:=Tryz.prog) wr.drew i0.size 0 ⟨q,0,none⟩ 0 0 [] (by simp) (fun j u hu=>by simp at hu);have Hc:Src Tryz.prog i0.size 24 (.slice (some b) n d) n (fCells (flat R F T n)) wr:=Src.ofSlice wr Tryz.underlying24 b n d _ (by rw [hl,Hg]) Hd h1;have He:=run_append_grow_src (P:=Tryz.prog) (w:=wr) 24 24 24 96 i0 _ Tryz.underlying24 Ha Hf (some ⟨q,0,none⟩) 0 0 [] Hb (.slice (some b) n d) n _ Hc (by omega) (by omega) (growslice_fits (by omega) (by rw [Hh];omega));rw [hr] at He;injection He with e1 e2;injection e1 with e1 _ _;injection e1 with e1;injection e1
theorem CpS.start (w:World)(va vx:Value):
  CpS w (((((w.alloc (.cells #[va,vx] 28)).alloc (.cells #[.slice none 0 0,.slice none 0 0] 28)).alloc (.cells #[] 60)).alloc (.cells #[] 96)).alloc (.cells #[.slice (some ⟨w.heap.size+1+1,0,none⟩) 0 0,.slice (some ⟨w.heap.size+1+1+1,0,none⟩) 0 0] 28)) va vx (w.heap.size+1+1) 0 [] (fun _=>0) (fun _=>0):=by
 obtain⟨w1,h1⟩:∃w1,w.alloc (.cells #[va,vx] 28)=w1:=⟨_,rfl⟩;have z1:w1.heap.size=w.heap.size+1:=by rw [<- h1];simp
 have A1:Bx2 w1 w.heap.size va vx:=by rw [<- h1];exact Bx2.made _ _ _ _
 have l1:Below w.heap.size w w1:=by rw [<- h1];exact zO _ _
 rw [h1];obtain⟨w2,h2⟩:∃w2,w1.alloc (.cells #[.slice none 0 0,.slice none 0 0] 28)=w2:=⟨_,rfl⟩;have z2:w2.heap.size=w.heap.size+1+1:=by rw [<- h2];simp [z1]
 have A2:Bx2 w2 w.heap.size va vx:=by rw [<- h2];exact A1.allocs _
 have R2:Bx2 w2 (w.heap.size+1) (.slice none 0 0) (.slice none 0 0):=by rw [<- h2,<- z1];exact Bx2.made _ _ _ _
 have l2:Below w.heap.size w w2:=by rw [<- h2];exact l1.alloc (by omega) _
 rw [h2];obtain⟨w3,h3⟩:∃w3,w2.alloc (.cells #[] 60)=w3:=⟨_,rfl⟩;have z3:w3.heap.size=w.heap.size+1+1+1:=by rw [<- h3];simp [z2]
 have b3:Below w2.heap.size w2 w3:=by rw [<- h3];exact zO _ _
 have O3:LC w3 (w.heap.size+1+1) (.slice (some ⟨w.heap.size+1+1,0,none⟩) 0 0) [] (fun _=>0) (fun _=>0):=by
  refine⟨?_,fun i hi=>by simp at hi⟩;rw [<- h3,<- z2];have:=World.ownsRow_lit (base:=w2.heap.size) (e:=60) (size:=5) w2 #[] 0 zL (by unfold maxLen;omega) rfl;simpa using this
 rw [h3];obtain⟨w4,h4⟩:∃w4,w3.alloc (.cells #[] 96)=w4:=⟨_,rfl⟩;have z4:w4.heap.size=w.heap.size+1+1+1+1:=by rw [<- h4];simp [z3]
 have b4:Below w3.heap.size w3 w4:=by rw [<- h4];exact zO _ _
 have N4:w4.ownsRow (w.heap.size+1+1+1) 96 3 (.slice (some ⟨w.heap.size+1+1+1,0,none⟩) 0 0) 0 []:=by
  rw [<- h4,<- z3];have:=World.ownsRow_lit (base:=w3.heap.size) (e:=96) (size:=3) w3 #[] 0 zL (by unfold maxLen;omega) rfl;simpa using this
 rw [h4];have b5:∀o,Below w4.heap.size w4 (w4.alloc o):=fun o=>zO _ o;have Hb:=fun o=>keepS b4 (b5 o);have Ha:=fun o=>keepS b3 (Hb o);refine⟨keepS l2 (Ha _),A2.below (Ha _) A2.lt,R2.below (Ha _) R2.lt,?_,O3.below (Hb _),.inl rfl,own_at5 N4 fun g hg=>(b5 _).block g (N4.lt g hg).2,fun i hi=>by simp at hi,fun i hi=>by simp at hi,fun i j hi=>by simp at hi⟩;rw [<- z4];exact Bx2.made _ _ _ _
structure Cpd (w w':World)(S:Sx)(g c gx cx:Nat)(P Q:Nat ->Nat):Prop where
 lc:LC w' w.heap.size (.slice (some ⟨g,0,none⟩) S.l.length c) S.l P Q
 ow:Ow w' w.heap.size S.l P Q
 sep:Sep P S.l.length
 fr:FR w' w.heap.size (.slice (some ⟨gx,0,none⟩) S.n cx) (fS S)
 gn:g≠gx
 pn:∀i,i<S.l.length ->P i≠gx
 up:0<S.n ->g<gx/\∀i,i<S.l.length ->P i<gx
 low:Below w.heap.size w w'
theorem l3CopyO (a x:Option Addr)(c d:Nat)(S:Sx)(w:World)(hm:S.Sm)(hpl:∀i,i<S.l.length ->1<=(gL S.l i).p.length)(h:SCt w a x S):
  Calls Tryz.prog 45 #[.agg #[.slice a S.l.length c,.slice x S.n d]] w fun e w'=>∃g cg gx cx P Q,e=.returned (.agg #[.slice (some ⟨g,0,none⟩) S.l.length cg,.slice (some ⟨gx,0,none⟩) S.n cx])/\ Cpd w w' S g cg gx cx P Q:=by
 have HA:=hid h.lf;have Ga:=hid h.rn;have Gc:=hm.l1;have Gd:=hm.n1;have H8:=hid hm.p1;have H9:=hid hpl;have Hy:=hid (CpS.start w (.slice a S.l.length c) (.slice x S.n d));clear h hpl;go_enter Tryz.func45,Tryz.ntmps45;go_wp2_with fail;go_loopw [4] (fun i wr=>∃(j:Nat),j<=S.l.length/\ i=.int .i64 (j:Int)/\ Hid (∃q Hd P Q,CpS w wr (.slice a S.l.length c) (.slice x S.n d) q Hd (S.l.take j) P Q)) (fun i _=>S.l.length - (intOf i).toNat);case atStart=>exact⟨0,Nat.zero_le _,rfl,hid ⟨_,_,_,_,Hy.out⟩⟩
 case round=>
  clear Hy;obtain⟨j,hj,rfl,HI⟩:=hrel;obtain⟨q,Hd,P,Q,hL⟩:=HI.out;have Hv:(S.l.take j).length=j:=by simp;omega
  have Hq:=hid Hv;have HL:=hid hL;have a0:=hL.ab.c0;have a1:=hL.ab.c1;have o0:=hL.ob.c0;have o1:=hL.ob.c1;rw [Hv] at o0;clear hL HI Hv;by_cases Hl:j<S.l.length
  ·have i1:(0:Int)<=(j:Int):=Int.natCast_nonneg _;have i2:(j:Int)<(S.l.length:Int):=by omega
   obtain⟨ab,ao,rfl,Hk,H1⟩:=(HA.out).resolve_left (by omega);obtain⟨Gk,pc,⟨c0,d0⟩,sg,c1,c2,c3,c4⟩:=H1 j Hl;have Gf:=H9.out j Hl;obtain⟨pb,po,rfl,Ht,H4⟩:=sg.resolve_left (by omega);have Hz:Hid (S.l.take j++[gL S.l j]=S.l.take (j+1)):=hid (by
    rw [List.take_add_one];congr 1;simp [gL,List.getD,Hl])
   have Hh:Hid (∀w1 p qc,Below wr.heap.size wr w1 ->wr.heap.size<=p ->p<w1.heap.size ->Wr w1 p 9 (gL S.l j).p.length (fun t=> .string (gS (gL S.l j).p t)) ->((gL S.l j).p.length<=qc/\ qc<=9223372036854775807) ->w1.ownsRow wr.heap.size 9 1 (.slice (some ⟨p,0,none⟩) (gL S.l j).p.length qc) (gL S.l j).p.length (sRow (gL S.l j).p) ->∃q' Hf w3,(Builtin.append_ #[23,23] 23 #[.slice (some ⟨q,0,none⟩) j Hd,.slice (some ⟨w1.heap.size,0,none⟩) 1 1]).run Tryz.prog (w1.alloc (.cells #[.slice (some ⟨p,0,none⟩) (gL S.l j).p.length qc,.bool (gL S.l j).fl,.int .i64 (gL S.l j).r,.int .i64 (gL S.l j).q,.string (gL S.l j).v] 60))=.ok (.slice (some ⟨q',0,none⟩) (j+1) Hf) w3/\
    Below w.heap.size w w3/\ Bx2 w3 w.heap.size (.slice (some ⟨ab,ao,none⟩) S.l.length c) (.slice x S.n d)/\ Bx2 w3 (w.heap.size+1+1+1+1) (.slice (some ⟨q,0,none⟩) j Hd) (.slice (some ⟨w.heap.size+1+1+1,0,none⟩) 0 0)/\
    ∃q Hd P Q,CpS w (w3.setCell ⟨w.heap.size+1+1+1+1,0,none⟩ (.slice (some ⟨q',0,none⟩) (j+1) Hf)) (.slice (some ⟨ab,ao,none⟩) S.l.length c) (.slice x S.n d) q Hd (S.l.take (j+1)) P Q):=hid (fun w1 p qc hb h1 h2 h3 h4 h5=>by
    have:=HL.out.step hb (by rw [Hq.out];omega) (gL S.l j) p qc h1 h2 h3 h4 h5;rw [Hq.out,Hz.out] at this;exact this)
   have Hg:Hid (∀w1,Below wr.heap.size wr w1 ->Calls Tryz.prog 49 #[.agg #[.slice (some ⟨pb,po,none⟩) (gL S.l j).p.length pc,.bool (gL S.l j).fl,.int .i64 (gL S.l j).r,.int .i64 (gL S.l j).q,.string (gL S.l j).v]] w1 fun e w'=>∃q Hd,e=.returned (.agg #[.slice (some ⟨q,0,none⟩) (gL S.l j).p.length Hd,.bool (gL S.l j).fl,.int .i64 (gL S.l j).r,.int .i64 (gL S.l j).q,.string (gL S.l j).v])/\ Below w1.heap.size w1 w'/\ w1.heap.size<=q/\ q<w'.heap.size/\ Wr w' q 9 (gL S.l j).p.length (fun t=> .string (gS (gL S.l j).p t))/\ (gL S.l j).p.length<=Hd/\ Hd<=9223372036854775807/\ w'.ownsRow w1.heap.size 9 1 (.slice (some ⟨q,0,none⟩) (gL S.l j).p.length Hd) (gL S.l j).p.length (sRow (gL S.l j).p)):=hid (fun w1 hb=>by
    have b2:=keepS HL.out.low hb;exact l3LeafK pb po (gL S.l j).p.length pc (gL S.l j) w1 rfl (H8.out j) (Nat.lt_of_lt_of_le Ht b2.size) (fun t ht=>(b2.cell (p:=⟨pb,po+t,none⟩) Ht).trans (H4 t ht)))
   have HC:Hid (∀w',Below w.heap.size w w' ->w'.cell? ⟨ab,ao+j*5,none⟩=some (.slice (some ⟨pb,po,none⟩) (gL S.l j).p.length pc)/\ w'.cell? ⟨ab,ao+j*5+1,none⟩=some (.bool (gL S.l j).fl)/\ w'.cell? ⟨ab,ao+j*5+2,none⟩=some (.int .i64 (gL S.l j).r)/\ w'.cell? ⟨ab,ao+j*5+3,none⟩=some (.int .i64 (gL S.l j).q)/\ w'.cell? ⟨ab,ao+j*5+4,none⟩=some (.string (gL S.l j).v)):=hid (fun w' b=>⟨(b.cell (p:=⟨ab,_,none⟩) Hk).trans c0,(b.cell (p:=⟨ab,_,none⟩) Hk).trans c1,(b.cell (p:=⟨ab,_,none⟩) Hk).trans c2,(b.cell (p:=⟨ab,_,none⟩) Hk).trans c3,(b.cell (p:=⟨ab,_,none⟩) Hk).trans c4⟩);obtain⟨c0,c1,c2,c3,c4⟩:=HC.out wr HL.out.low;obtain⟨y,hy⟩:∃y,gL S.l j=y:=⟨_,rfl⟩;rw [hy] at c0 c1 c2 c3 c4 Hg Hh HC;obtain⟨yp,yf,yr,yq,yv⟩:=y;dsimp only at c0 c1 c2 c3 c4 Hg Hh HC;obtain⟨np,H2⟩:∃np,yp.length=np:=⟨_,rfl⟩;rw [H2] at c0 Hg Hh HC;clear hy H2 H1 sg H4 Ht Hk d0 Gf Hz;go_wp2_with fail;have Hb:Hid (∀w',Below w.heap.size w w' ->w'.cell? ⟨w.heap.size,0,none⟩=some (.slice (some ⟨ab,ao,none⟩) S.l.length c) ->(Below w.heap.size w w'/\ w'.cell? ⟨w.heap.size,0,none⟩=some (.slice (some ⟨ab,ao,none⟩) S.l.length c)/\ w'.cell? ⟨ab,ao+j*5,none⟩=some (.slice (some ⟨pb,po,none⟩) np pc)/\ w'.cell? ⟨ab,ao+j*5+1,none⟩=some (.bool yf)/\ w'.cell? ⟨ab,ao+j*5+2,none⟩=some (.int .i64 yr)/\ w'.cell? ⟨ab,ao+j*5+3,none⟩=some (.int .i64 yq)/\ w'.cell? ⟨ab,ao+j*5+4,none⟩=some (.string yv))):=hid (fun w' hB h0=>⟨hB,h0,HC.out w' hB⟩);refine zR (S:=fun w'=>Below w.heap.size w w'/\ w'.cell? ⟨w.heap.size,0,none⟩=some (.slice (some ⟨ab,ao,none⟩) S.l.length c)/\ w'.cell? ⟨ab,ao+j*5,none⟩=some (.slice (some ⟨pb,po,none⟩) np pc)/\ w'.cell? ⟨ab,ao+j*5+1,none⟩=some (.bool yf)/\ w'.cell? ⟨ab,ao+j*5+2,none⟩=some (.int .i64 yr)/\ w'.cell? ⟨ab,ao+j*5+3,none⟩=some (.int .i64 yq)/\ w'.cell? ⟨ab,ao+j*5+4,none⟩=some (.string yv)) (Hb.out _ HL.out.low.drew (HL.out.ab.below zI.drew HL.out.ab.lt).c0) (fun qh=> ?_);clear c0 c1 c2 c3 c4;refine tZ 0 16 ?_;refine tZ 2 18 ?_;refine tZ 3 19 ?_;refine tZ 4 20 ?_;refine tZ 5 21 ?_;refine tZ 6 22 ?_;refine ready2t (i:=1) (j:=7) (d:=some 17) (d':=some 23) (by kernel_rfl) (by kernel_rfl) (by kernel_rfl) ?_ ?_
   ·
    intro o ho Hs K hK;simp only [gZa,gZb,gZc,gZd] at ho;subst ho;go_simp;refine hK.out _ _ (Hb.out _ HL.out.low.drew (HL.out.ab.below zI.drew HL.out.ab.lt).c0) (fun qh=> ?_);clear hK K;try simp only [zP]
    refine cZ 7 ?_;intro K hK;go_simp;refine(Hg.out _ zI.drew).mono ?_;rintro e w1 ⟨p,qc,rfl,b1,p1,p2,Hn,q1,q2,Hm⟩;have Hi:Below wr.heap.size wr w1:=⟨b1.os,b1.tape,b1.output,b1.size,b1.block⟩;have L1:=HL.out.below Hi;have L2:=L1.below (zO w1 (.cells #[.slice (some ⟨p,0,none⟩) np qc,.bool yf,.int .i64 yr,.int .i64 yq,.string yv] 60));obtain⟨q',Hf,w3,Ha,l3,A3,O3,h5⟩:=Hh.out w1 p qc Hi p1 p2 Hn ⟨q1,q2⟩ Hm;have Hj:=hid h5;refine hK.out _ _ (Hb.out _ L1.low L1.ab.c0) (fun qh=> ?_);clear hK K;try simp only [zP]
    refine cZ 8 ?_;intro K hK;go_simp;refine hK.out _ _ (Hb.out _ L2.low L2.ab.c0) (fun qh=> ?_);clear hK K;try simp only [zP]
    refine cZ 9 ?_;intro K hK;refine wp_app2 _ _ _ _ rfl Ha (by rfl) (by rfl) rfl ?_;refine hK.out _ _ (Hb.out _ l3 A3.c0) (fun qh=> ?_);clear hK K;try simp only [zP]
    refine tZ 10 26 ?_;have t0:=O3.c0;have tf:=O3.f;refine cZ 11 ?_;intro K hK;go_simp;obtain⟨_,_,_,_,h6⟩:=Hj.out;refine hK.out _ _ (Hb.out _ h6.low h6.ab.c0) (fun qh=> ?_);clear hK K;try simp only [zP]
    refine zD ?_;clear qh b1 Hi L1 L2 Ha l3 A3 O3 h5 h6 t0 tf Hn p1 p2 Hh Hg HC Hb q1 q2 Hm;go_wp2_with fail;go_roundw;case rel=>exact⟨j+1,Hl,by go_num,Hj⟩
    case measure=>simp [intOf];omega
   ·
    intro o ho Hs K hK;simp only [gZa,gZb,gZc,gZd] at ho;subst ho;go_simp;refine(Hg.out _ zI.drew).mono ?_;rintro e w1 ⟨p,qc,rfl,b1,p1,p2,Hn,q1,q2,Hm⟩;have Hi:Below wr.heap.size wr w1:=⟨b1.os,b1.tape,b1.output,b1.size,b1.block⟩;have L1:=HL.out.below Hi;have L2:=L1.below (zO w1 (.cells #[.slice (some ⟨p,0,none⟩) np qc,.bool yf,.int .i64 yr,.int .i64 yq,.string yv] 60));obtain⟨q',Hf,w3,Ha,l3,A3,O3,h5⟩:=Hh.out w1 p qc Hi p1 p2 Hn ⟨q1,q2⟩ Hm;have Hj:=hid h5;refine hK.out _ _ (Hb.out _ L1.low L1.ab.c0) (fun qh=> ?_);clear hK K;try simp only [zP]
    refine ready2t (i:=1) (j:=8) (d:=some 17) (d':=some 24) (by kernel_rfl) (by kernel_rfl) (by kernel_rfl) ?_ ?_
    ·
     have t0:=L1.ob.c0;intro o ho Hs K hK;simp only [gZa,gZb,gZc,gZd] at ho;subst ho;go_simp;refine hK.out _ _ (Hb.out _ L1.low L1.ab.c0) (fun qh=> ?_);clear hK K;try simp only [zP]
     clear t0;refine cZ 8 ?_;intro K hK;go_simp;refine hK.out _ _ (Hb.out _ L2.low L2.ab.c0) (fun qh=> ?_);clear hK K;try simp only [zP]
     refine cZ 9 ?_;intro K hK;refine wp_app2 _ _ _ _ rfl Ha (by rfl) (by rfl) rfl ?_;refine hK.out _ _ (Hb.out _ l3 A3.c0) (fun qh=> ?_);clear hK K;try simp only [zP]
     refine tZ 10 26 ?_;have t0:=O3.c0;have tf:=O3.f;refine cZ 11 ?_;intro K hK;go_simp;obtain⟨_,_,_,_,h6⟩:=Hj.out;refine hK.out _ _ (Hb.out _ h6.low h6.ab.c0) (fun qh=> ?_);clear hK K;try simp only [zP]
     refine zD ?_;clear qh b1 Hi L1 L2 Ha l3 A3 O3 h5 h6 t0 tf Hn p1 p2 Hh Hg HC Hb q1 q2 Hm;go_wp2_with fail;go_roundw;case rel=>exact⟨j+1,Hl,by go_num,Hj⟩
     case measure=>simp [intOf];omega
    ·
     intro o ho Hs K hK;simp only [gZa,gZb,gZc,gZd] at ho;subst ho;go_simp;refine hK.out _ _ (Hb.out _ L2.low L2.ab.c0) (fun qh=> ?_);clear hK K;try simp only [zP]
     have t0:=L2.ob.c0;refine cZ 1 ?_;intro K hK;go_simp;refine hK.out _ _ (Hb.out _ L2.low L2.ab.c0) (fun qh=> ?_);clear hK K;try simp only [zP]
     clear t0;refine cZ 9 ?_;intro K hK;refine wp_app2 _ _ _ _ rfl Ha (by rfl) (by rfl) rfl ?_;refine hK.out _ _ (Hb.out _ l3 A3.c0) (fun qh=> ?_);clear hK K;try simp only [zP]
     refine tZ 10 26 ?_;have t0:=O3.c0;have tf:=O3.f;refine cZ 11 ?_;intro K hK;go_simp;obtain⟨_,_,_,_,h6⟩:=Hj.out;refine hK.out _ _ (Hb.out _ h6.low h6.ab.c0) (fun qh=> ?_);clear hK K;try simp only [zP]
     refine zD ?_;clear qh b1 Hi L1 L2 Ha l3 A3 O3 h5 h6 t0 tf Hn p1 p2 Hh Hg HC Hb q1 q2 Hm;go_wp2_with fail;go_roundw;case rel=>exact⟨j+1,Hl,by go_num,Hj⟩
     case measure=>simp [intOf];omega
  ·obtain rfl:j=S.l.length:=by omega
   have H0:RSeg wr x S.n S.R S.F S.T:=Ga.out.below HL.out.low;have Gh:=HL.out.ob.lt;obtain⟨q2,Hr,w5,Ha,H3,He,Hu,H5⟩:=appRuns (d:=d) HL.out.rn (by omega) Gd H0;have O5:=HL.out.ob.grw He (by omega);have R5:=HL.out.rb.grw He (by omega);have b0:=O5.c0;have b1:=O5.c1;have bf:=O5.f;have r0:=R5.c0;have r1:=R5.c1;have rf:=R5.f;rw [Hq.out] at b0;have Hp:Hid (∀b,b<wr.heap.size ->b≠w.heap.size+1+1+1 ->w5.heap[b]? =wr.heap[b]?):=hid (fun b h1 h2=>He.block b h1 (fun e=>h2 (by injection e)));have H7:=hid H3;have H6:=hid He;have Hx:=hid (And.intro Hu H5);have Gb:Hid (wr.heap.size<=w5.heap.size):=hid He.size;clear H3 He Hu H5 O5 R5 H0;go_wp2_with (at_builtin;refine wpList_app2 rfl _ _ _ _ rfl Ha (by rfl) (by rfl) rfl ?_;clear Ha);have Gj:=Gb.out;have Hu:=Hx.out.1;have Gi:=HL.out.q1;have Gg:=(HL.out.lc.lt q rfl).2;have Hc:∀(v0 v1 v2:Value) (b:Nat),b≠w.heap.size+1 ->b≠w.heap.size+1+1+1+1 ->(((w5.setCell ⟨w.heap.size+1+1+1+1,1,none⟩ v0).setCell ⟨w.heap.size+1,0,none⟩ v1).setCell ⟨w.heap.size+1,1,none⟩ v2).heap[b]? =w5.heap[b]? :=fun v0 v1 v2 b h1 h2=>by
    rw [zH _ _ _ _ (by simpa using h1),zH _ _ _ _ (by simpa using h1),zH _ _ _ _ (by simpa using h2)]
   have Hw:Below w.heap.size w w5:=HL.out.low.grown H6.out HL.out.low.size (fun k e=>by injection e with e;omega);have Ge:S.l.take S.l.length=S.l:=by simp
   have hL:CpS w wr (.slice a S.l.length c) (.slice x S.n d) q Hd S.l P Q:=by have:=HL.out;rw [Ge] at this;exact this
   have Ho:∀i,i<S.l.length ->w.heap.size+5<=P i/\ P i<wr.heap.size:=fun i hi=>⟨hL.pt i hi,(hL.lc.pt i hi).2.1⟩;refine zF (v:=.agg #[.slice (some ⟨q,0,none⟩) S.l.length Hd,.slice (some ⟨q2,0,none⟩) S.n Hr]) (by simp [results,Tryz.results45,go_sem,r0,r1]) ⟨_,_,_,_,P,Q,rfl,?_,?_,hL.sep,?_,by omega,fun i hi=>by have:=Ho i hi;omega,fun h0=> ?_,?_⟩
   ·refine⟨own_weak5 (own_at5 hL.lc.row (fun b hb=> ?_)) (by omega),fun i hi=> ?_⟩
    ·have e:q=b:=by simpa [Value.ownBlock] using hb
     exact(Hc _ _ _ b (by omega) (by omega)).trans (Hp.out b (by omega) (by omega))
    ·obtain⟨e1,e2,e3,e4,e5⟩:=hL.lc.pt i hi;have:=Ho i hi;exact⟨by omega,by simp [World.setCell];omega,e3,e4.same ((Hc _ _ _ _ (by omega) (by omega)).trans (Hp.out _ (by omega) (by omega))),e5⟩
   ·intro i hi;refine own_weak5 (own_at5 (hL.ow i hi) (fun b hb=> ?_)) (by omega);have e:P i=b:=by simpa [Value.ownBlock] using hb
    have:=Ho i hi;exact(Hc _ _ _ b (by omega) (by omega)).trans (Hp.out b (by omega) (by omega))
   ·refine own_weak5 (own_at5 H7.out (fun b hb=> ?_)) (by omega);have e:q2=b:=by simpa [Value.ownBlock] using hb
    exact Hc _ _ _ b (by omega) (by omega)
   ·have:=Hx.out.2 h0;exact⟨by omega,fun i hi=>by have:=Ho i hi;omega⟩
   ·exact((Hw.setCell (by simp;omega) _).setCell (by simp) _).setCell (by simp) _
end Go.Proofs.YtfidfeilljlbiaaGreat
