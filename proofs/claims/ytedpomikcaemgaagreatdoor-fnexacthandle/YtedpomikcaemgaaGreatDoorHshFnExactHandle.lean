import Derived.Test.YtedpomikcaemgaaGreatDoorHsg10
import Derived.Test.YtedpomikcaemgaaGreatDoorHsg11
import Derived.Test.YtedpomikcaemgaaGreatDoorTie
import Derived.ChangeVars
import Derived.LaidHandle
import Derived.Deep.DeepHandedRow
import Derived.SevenTiedAt
set_option linter.unusedVariables false
set_option linter.unusedSimpArgs false
set_option maxRecDepth 100000
set_option maxHeartbeats 40000000
namespace Go.Proofs.YtedpomikcaemgaaGreatDoor.fnExactHandle
open Go.ChangeShapes Go.WideShapes Go.ChangeAt Go.RowKit Go.Proofs.Tryz
open Option renaming none → Up, some → Uq
open Go renaming World → Ur, Addr → Us
open Go.Value renaming pointer → Uk, slice → Uf, int → Ug, string → Um, agg → Uo
open Go.IntKind renaming i64 → Uh
open Go.Ending renaming returned → Ui
open Go.Obj renaming cells → Uj
variable {P:Program}{W:Ur}{n:String}
theorem own:ownKnob prog.godebug=Up:=oK
theorem laidOut:laidOutB prog=true:=oK
theorem cellsS:prog.cellsOf 383=1:=oK
theorem cells9:prog.cellsOf 9=1:=oK
theorem star: "*" ++ "errors.errorString" = "*errors.errorString" :=oD
theorem row (u:TypeId)(h:prog.typeName? 3 u=Uq "*errors.errorString"):u=363:=
 typeName_ptr_named (nm:= "errors.errorString") (by rw [star];kernel_rfl) oK oD u (by rw [star];exact h)
theorem rt:(prog.cutTypes.find? (·.1== "internal/reflectlite.rtype")).map (·.2)=Uq 183:=oK
theorem oneRow:((List.range 395).filter fun t=>prog.rowNamed t [101,114,114,111,114])=[73]:=oK
theorem size:prog.types.size=395:=oK
theorem gY:prog.globalNamed "errors.errorType" =Uq 2:=oK
theorem g0:prog.globalNamed "loop.example/s02772/impl.errEnds" =Uq 14:=oK
theorem g1:prog.globalNamed "loop.example/s02772/impl.errTenth" =Uq 15:=oK
theorem g2:prog.globalNamed "loop.example/s02772/impl.errShorter" =Uq 16:=oK
theorem g3:prog.globalNamed "loop.example/s02772/impl.errTooLong" =Uq 4:=oK
theorem g4:prog.globalNamed "loop.example/s02772/impl.errLimit" =Uq 9:=oK
theorem g5:prog.globalNamed "loop.example/s02772/impl.errOrder" =Uq 10:=oK
theorem g6:prog.globalNamed "loop.example/s02772/impl.errNoRuns" =Uq 13:=oK
theorem g7:prog.globalNamed "loop.example/s02772/impl.errBehind" =Uq 5:=oK
theorem g8:prog.globalNamed "loop.example/s02772/impl.errNoName" =Uq 11:=oK
theorem g9:prog.globalNamed "loop.example/s02772/impl.errKind" =Uq 1:=oK
theorem g10:prog.globalNamed "loop.example/s02772/impl.errDeep" =Uq 8:=oK
theorem g11:prog.globalNamed "loop.example/s02772/impl.errNoKeys" =Uq 7:=oK
theorem g12:prog.globalNamed "loop.example/s02772/impl.errNoLeaves" =Uq 12:=oK
theorem g13:prog.globalNamed "loop.example/s02772/impl.errUnknown" =Uq 17:=oK
theorem g14:prog.globalNamed "loop.example/s02772/impl.errTwice" =Uq 18:=oK
theorem g15:prog.globalNamed "loop.example/s02772/impl.errReplica" =Uq 0:=oK
theorem g16:prog.globalNamed "loop.example/s02772/impl.errHello" =Uq 3:=oK
theorem g17:prog.globalNamed "loop.example/s02772/impl.errNoRoom" =Uq 6:=oK
theorem laidMet_skip{x y:String×DataW Unit}{r:List (String×DataW Unit)}{w:Ur}(h:laidMet P (x::y::r) w):laidMet P (x::r) w:=by
 obtain⟨ps,M,i,E⟩:=h;obtain⟨n,d⟩:=x;obtain⟨V,d'⟩:=y;obtain⟨g,t,k,m,p,q,u,v,z,o,s,rfl⟩:=M;obtain⟨U,Z,O,Q,Y,j,_,_,_,_,A,rfl⟩:=s;refine⟨_++j,⟨g,t,k,m,p,j,u,v,z,o,A,rfl⟩,List.Nodup.sublist ?_ i,fun b off hm=>E b off ?_⟩
 ·exact(List.sublist_append_right _ j).append_left _
 ·rcases List.mem_append.1 hm with h|h
  ·exact List.mem_append_left _ h
  ·exact List.mem_append_right _ (List.mem_append_right _ h)
theorem iface_inj {tp:TypeId}{a b:Us}{o:Option (Array Value)}(h1:o=Uq #[.iface tp (Uk (Uq a))])(h2:o=Uq #[.iface tp (Uk (Uq b))]):a=b:=by
 rw [h1] at h2;simpa using h2
theorem vc{g:Nat}{v:Value}(hg:prog.globalNamed n=Uq g)(h:W.var? prog n=Uq #[v]):W.cell? (Ub g)=Uq v/\ g<W.heap.size:=by
 have j:=World.var?_cell hg h 0;simp at j;exact⟨j,block_lt_of_cell j⟩
theorem ers(h:laidMetH prog Rows.fnExactHandleRow.laid W):ErH W/\∃q m j,QcL W W.heap.size q m j j:=by
 have h':laidMet prog [("loop.example/s02772/impl.errEnds",Rows.laid_loop_example_s02772_impl_errEnds),("loop.example/s02772/impl.errTenth",Rows.laid_loop_example_s02772_impl_errTenth),("loop.example/s02772/impl.errShorter",Rows.laid_loop_example_s02772_impl_errShorter),("loop.example/s02772/impl.errTooLong",Rows.laid_loop_example_s02772_impl_errTooLong),("loop.example/s02772/impl.errLimit",Rows.laid_loop_example_s02772_impl_errLimit),("loop.example/s02772/impl.errOrder",Rows.laid_loop_example_s02772_impl_errOrder),("loop.example/s02772/impl.errNoRuns",Rows.laid_loop_example_s02772_impl_errNoRuns),("loop.example/s02772/impl.errBehind",Rows.laid_loop_example_s02772_impl_errBehind),("loop.example/s02772/impl.errNoName",Rows.laid_loop_example_s02772_impl_errNoName),("loop.example/s02772/impl.errKind",Rows.laid_loop_example_s02772_impl_errKind),("loop.example/s02772/impl.errDeep",Rows.laid_loop_example_s02772_impl_errDeep),("loop.example/s02772/impl.errNoKeys",Rows.laid_loop_example_s02772_impl_errNoKeys),("loop.example/s02772/impl.errNoLeaves",Rows.laid_loop_example_s02772_impl_errNoLeaves),("loop.example/s02772/impl.errUnknown",Rows.laid_loop_example_s02772_impl_errUnknown),("loop.example/s02772/impl.errTwice",Rows.laid_loop_example_s02772_impl_errTwice),("loop.example/s02772/impl.errReplica",Rows.laid_loop_example_s02772_impl_errReplica),("loop.example/s02772/impl.errHello",Rows.laid_loop_example_s02772_impl_errHello),("loop.example/s02772/impl.errNoRoom",Rows.laid_loop_example_s02772_impl_errNoRoom)] W/\ handlesMet prog [("errors.errorType",Rows.laid_errors_errorType)] W:=h;obtain⟨k,hh⟩:=h';obtain⟨Ha,u,ty,e1,e2,e3,e4,g⟩:=hh _ (List.mem_singleton.2 rfl);have en:Ha=[101,114,114,111,114]:=(Option.some.inj e1).symm;subst en;obtain rfl:=Option.some.inj (rt.symm.trans e2);have o:ty∈(List.range 395).filter fun t=>prog.rowNamed t [101,114,114,111,114]:=List.mem_filter.2 ⟨List.mem_range.2 (size▸e3),e4⟩;rw [oneRow] at o;obtain rfl:=List.mem_singleton.1 o;have Hc:typeHandle prog 73=Uk (Uq (Ua 19 73)):=oK;rw [Hc] at g;have z:W.cell? (Ub 2)=Uq (.iface 183 (Uo #[Uk (Uq (Ua 19 73))])):=oW (World.var?_cell gY g 0);obtain⟨j,q,_,_,_,_,_,_,H,J,_,_,_,_,_,_,Hf,K,N⟩:=laid_sentinels2 k g0 oK g1 oK underlying73 row underlying363 underlying383 rfl rfl underlying9 cellsS cells9;obtain⟨Hr,m,_,_,_,_,_,_,Ho,I,_,_,_,_,_,_,He,_,L⟩:=laid_sentinels2 (laidMet_skip k) g0 oK g2 oK underlying73 row underlying363 underlying383 rfl rfl underlying9 cellsS cells9;obtain⟨Ht,Hs,_,_,_,_,_,_,Hq,Hp,_,_,_,_,_,_,Hb,_,_⟩:=laid_sentinels2 k.tail g1 oK g2 oK underlying73 row underlying363 underlying383 rfl rfl underlying9 cellsS cells9;obtain rfl:=iface_inj H Ho;obtain rfl:=iface_inj J Hq;obtain rfl:=iface_inj I Hp;have O:=laidMet_skip (laidMet_skip k);obtain⟨_,_,_,_,_,_,_,_,_,v3,_⟩:=laid_sentinels2 O g0 oK g3 oK underlying73 row underlying363 underlying383 rfl rfl underlying9 cellsS cells9;have Q:=laidMet_skip O;obtain⟨_,_,_,_,_,_,_,_,_,v4,_⟩:=laid_sentinels2 Q g0 oK g4 oK underlying73 row underlying363 underlying383 rfl rfl underlying9 cellsS cells9;have U:=laidMet_skip Q;obtain⟨_,_,_,_,_,_,_,_,_,v5,_⟩:=laid_sentinels2 U g0 oK g5 oK underlying73 row underlying363 underlying383 rfl rfl underlying9 cellsS cells9;have V:=laidMet_skip U;obtain⟨_,_,_,_,_,_,_,_,_,v6,_⟩:=laid_sentinels2 V g0 oK g6 oK underlying73 row underlying363 underlying383 rfl rfl underlying9 cellsS cells9;have Y:=laidMet_skip V;obtain⟨_,_,_,_,_,_,_,_,_,v7,_⟩:=laid_sentinels2 Y g0 oK g7 oK underlying73 row underlying363 underlying383 rfl rfl underlying9 cellsS cells9;have Z:=laidMet_skip Y;obtain⟨_,_,_,_,_,_,_,_,_,v8,_⟩:=laid_sentinels2 Z g0 oK g8 oK underlying73 row underlying363 underlying383 rfl rfl underlying9 cellsS cells9;have G:=laidMet_skip Z;obtain⟨_,_,_,_,_,_,_,_,_,v9,_⟩:=laid_sentinels2 G g0 oK g9 oK underlying73 row underlying363 underlying383 rfl rfl underlying9 cellsS cells9;have i:=laidMet_skip G;obtain⟨_,_,_,_,_,_,_,_,_,Hg,_⟩:=laid_sentinels2 i g0 oK g10 oK underlying73 row underlying363 underlying383 rfl rfl underlying9 cellsS cells9;have b:=laidMet_skip i;obtain⟨_,_,_,_,_,_,_,_,_,Hh,_⟩:=laid_sentinels2 b g0 oK g11 oK underlying73 row underlying363 underlying383 rfl rfl underlying9 cellsS cells9;have p:=laidMet_skip b;obtain⟨_,_,_,_,_,_,_,_,_,Hi,_⟩:=laid_sentinels2 p g0 oK g12 oK underlying73 row underlying363 underlying383 rfl rfl underlying9 cellsS cells9;have s:=laidMet_skip p;obtain⟨_,_,_,_,_,_,_,_,_,Hj,_⟩:=laid_sentinels2 s g0 oK g13 oK underlying73 row underlying363 underlying383 rfl rfl underlying9 cellsS cells9;have A:=laidMet_skip s;obtain⟨_,_,_,_,_,_,_,_,_,Hk,_⟩:=laid_sentinels2 A g0 oK g14 oK underlying73 row underlying363 underlying383 rfl rfl underlying9 cellsS cells9;have E:=laidMet_skip A;obtain⟨_,_,_,_,_,_,_,_,_,Hl,_⟩:=laid_sentinels2 E g0 oK g15 oK underlying73 row underlying363 underlying383 rfl rfl underlying9 cellsS cells9;have M:=laidMet_skip E;obtain⟨_,_,_,_,_,_,_,_,_,Hm,_⟩:=laid_sentinels2 M g0 oK g16 oK underlying73 row underlying363 underlying383 rfl rfl underlying9 cellsS cells9;have Hd:=laidMet_skip M;obtain⟨_,_,_,_,_,_,_,_,_,Hn,_⟩:=laid_sentinels2 Hd g0 oK g17 oK underlying73 row underlying363 underlying383 rfl rfl underlying9 cellsS cells9;have v:∀{a:Us} {c:Array Value} {t:TypeId},W.heap[a.block]? =Uq (.cells c t (0,0)) ->a.block<W.heap.size:=fun{a c t} hb=>by
  rcases Nat.lt_or_ge a.block W.heap.size with r|r
  ·exact r
  ·rw [Array.getElem?_eq_none r] at hb;cases hb
 have cE:=vc g0 H;have cT:=vc g1 J;have cS:=vc g2 I;have T:=vc g3 v3;have c4:=vc g4 v4;have c5:=vc g5 v5;have c6:=vc g6 v6;have c7:=vc g7 v7;have c8:=vc g8 v8;have y:=vc g9 v9;have X:=vc g10 Hg;have B:=vc g11 Hh;have C:=vc g12 Hi;have D:=vc g13 Hj;have F:=vc g14 Hk;have P:=vc g15 Hl;have R:=vc g16 Hm;have S:=vc g17 Hn;exact⟨⟨⟨_,_,P.1⟩,⟨_,_,y.1⟩,⟨_,_,R.1⟩,⟨_,_,S.1⟩,z⟩,q,m,j,{gT:=cT.1,gS:=cS.1,gE:=cE.1,gY:=z,nTS:=Hb,nTE:=Hf.symm,nSE:=He.symm,bT:=⟨_,_,N⟩,bS:=⟨_,_,L⟩,bE:=⟨_,_,K⟩,gM:=⟨_,c4.1⟩,gO:=⟨_,c5.1⟩,gN:=⟨_,c6.1⟩,x0:=⟨_,T.1⟩,x1:=⟨_,c7.1⟩,x2:=⟨_,c8.1⟩,x3:=⟨_,y.1⟩,x4:=⟨_,X.1⟩,x5:=⟨_,B.1⟩,x6:=⟨_,C.1⟩,x7:=⟨_,D.1⟩,x8:=⟨_,F.1⟩,lG:=by omega,lT:=v N,lS:=v L,lE:=v K}⟩
theorem var?_below{W':Ur}{cs:Array Value}(h:W.var? P n=Uq cs)(hb:Bl W W'):W'.var? P n=Uq cs:=by
 unfold World.var? at h ⊢;cases hg:P.globalNamed n with
 | none=>simp [hg] at h
 | some g=>
  simp only [hg,Option.bind_some] at h ⊢;have k:g<W.heap.size:=by
   rcases Nat.lt_or_ge g W.heap.size with j|j
   ·exact j
   ·simp [Array.getElem?_eq_none j] at h
  rw [hb.block g k];exact h
theorem trod_iface {H:Type}{enc:TypeId×Value ->H}{t:TypeId}{ms:Array (String×TypeId)}(ht:P.underlying t=Uq (.interface ms)){sp:Nat ->Bool}{fuel:Nat}{cs:List Value}{y:DataW H×List MemPlace}
  (h:DataW.trod enc P W 0 sp true fuel t cs=Uq y) (W':Ur) (sp':Nat ->Bool):DataW.trod enc P W' 0 sp' true fuel t cs=Uq y:=by
 cases fuel with
 | zero=>simp [DataW.trod] at h
 | succ n=>
  unfold DataW.trod at h ⊢;rw [ht] at h ⊢;match cs,h with
  | [],h=>simp at h
  | [v],h=>cases v<;>simp at h ⊢<;>exact h
  | _::_::_,h=>simp at h
theorem vars_below {H:Type}{enc:TypeId×Value ->H}{P:Program}{t:TypeId}{ms:Array (String×TypeId)}(ht:P.underlying t=Uq (.interface ms)){W W':Ur}{sp:Nat ->Bool}(hb:Bl W W')(sp':Nat ->Bool):
  ∀(ns:List String) (gs:List (DataW H)) (q:List MemPlace),(∀n∈ns,(P.globalNamed n).bind (fun g=>(P.globals[g]?).map (·.type))=Uq t) ->DataW.TrodVars enc P W sp ns gs q ->DataW.TrodVars enc P W' sp' ns gs q
 | [],[],q,_,h=>h
 | [],_::_,_,_,h=>h.elim
 | _::_,[],_,_,h=>h.elim
 | n::ns,d::ds,q,hn,h=>by
  obtain⟨g,u,v,y,p,r,j,k,z,o,i,b⟩:=h;have e:u=t:=by
   have:=hn n (List.mem_cons_self);rw [j,Option.bind_some,k] at this;exact Option.some.inj this
  subst e;exact⟨g,u,v,y,p,r,j,k,var?_below z hb,trod_iface ht o W' sp',vars_below ht hb sp' ns ds r (fun m hm=>hn m (List.mem_cons_of_mem _ hm)) i,b⟩
theorem vars_len {H:Type}{enc:TypeId×Value ->H}{P:Program}{W:Ur}{sp:Nat ->Bool}:∀{ns:List String} {gs:List (DataW H)} {q:List MemPlace},DataW.TrodVars enc P W sp ns gs q ->gs.length=ns.length
 | [],[],_,_=>rfl
 | [],_::_,_,h=>h.elim
 | _::_,[],_,h=>h.elim
 | _::_,_::_,_,h=>by
  obtain⟨_,_,_,_,_,_,_,_,_,_,j,_⟩:=h;simp [vars_len j]
theorem vars_type:∀n∈Rows.fnExactHandleSpec.vars,(prog.globalNamed n).bind (fun g=>(prog.globals[g]?).map (·.type))=Uq 73:=by
 have h:(Rows.fnExactHandleSpec.vars.all fun n=>decide ((prog.globalNamed n).bind (fun g=>(prog.globals[g]?).map (·.type))=Uq 73))=true:=oK;intro n j;exact of_decide_eq_true (List.all_eq_true.1 h n j)
theorem vars_all {H:Type}{enc:TypeId×Value ->H}{sp:Nat ->Bool}{gs:List (DataW H)}{q:List MemPlace}(h:DataW.TrodVars enc prog W sp Rows.fnExactHandleSpec.vars gs q):∃g1 g2 g3 g4 g5 g6 g7 g8 g9 g10 g11 g12 g13 g14 g15 g16 g17 g18,gs=[g1,g2,g3,g4,g5,g6,g7,g8,g9,g10,g11,g12,g13,g14,g15,g16,g17,g18]:=by
 have j:gs.length=18:=(vars_len h).trans rfl;match gs,j with
 | [g1,g2,g3,g4,g5,g6,g7,g8,g9,g10,g11,g12,g13,g14,g15,g16,g17,g18],_=>exact⟨_,_,_,_,_,_,_,_,_,_,_,_,_,_,_,_,_,_,rfl⟩
noncomputable def low:Nat:=(World.holding prog default ⟨#[],#[],[]⟩).heap.size
def setAt (h:Array Obj)(g:Nat)(vs:Array Value):Array Obj:=h.modify g fun
 | .cells _ t frozen=> .cells vs t frozen
 | o=>o
noncomputable def laidWorld (os:Os):Ur:=
 let L:=Rows.fnExactHandleRow.laid.drop 1
 let w0:=World.holding prog os ⟨(L.map fun p=>(match p.2 with
  | .iface _ (.ptr (.agg [.lit (.string b)]))=> Uj #[Um ⟨b.toArray⟩] 383
  | _=> Uj #[] 383:Obj)).toArray,#[],[]⟩
 {w0 with heap:=L.zipIdx.foldl (fun h p=>setAt h ((prog.globalNamed p.1.1).getD 0) #[.iface 363 (Uk (Uq (Ua (low+p.2) 0)))]) (setAt w0.heap 2 #[.iface 183 (Uo #[Uk (Uq (Ua 19 73))])])}
theorem laid_met (os:Os)(args:Array Value):laidMetH prog Rows.fnExactHandleRow.laid ((laidWorld os).forCall (fun _ _=>0) ⟨#[],args,[]⟩).memory:=
 laidMetH_of_parts (laidMet_of_run' 8 oK oK) oK
theorem contract (H:Type)(enc:TypeId×Value ->H)(W:Ur)(base:Nat)(args:Array Value)(ds gs:List (DataW H))(before:List MemPlace)
  (hval0:∀(j:Nat) t v,Tryz.f3.params[j]? =Uq t ->args[j]? =Uq v ->Value.okWide prog W .any base t v)
  (hW:DataW.Whole enc prog Tryz.f3.params.toList Rows.fnExactHandleSpec.vars false W args.toList ds gs before) (hL:laidMetH prog Rows.fnExactHandleRow.laid W):
  Cl 3 args W fun e W'=>∃v,e=Ui v/\ Rows.fnExactHandleSpec.post enc prog Tryz.f3 false true false false W args v W':=by
 have z:∀(j:Nat) t v,Tryz.f3.params[j]? =Uq t ->args[j]? =Uq v ->Value.okWide prog W .any base t v:=hval0;have Z:=hW;obtain⟨p,q,s,r,rfl,Hn,Ho⟩:=hW;have b:DataW.TrodAll enc prog W 0 (fun _=>true) true Tryz.f3.params.toList args.toList ds p:=s;have vr:∀{X:Ur},Bl W X ->∀sp:Nat ->Bool,DataW.TrodVars enc prog X sp Rows.fnExactHandleSpec.vars gs q:=fun u sp=>vars_below underlying73 u sp _ _ _ vars_type r;obtain⟨g1,g2,g3,g4,g5,g6,g7,g8,g9,He,Hf,Hg,Hh,Hi,Hj,Hk,Hl,Hm,rfl⟩:=vars_all r;rw [params3] at b z;obtain⟨v0,Hp,d0,Hc,F,q0,Ha,rfl,rfl,o,r0⟩:=trodAll_cons b;obtain⟨v1,Hq,d1,Hd,P,q1,G,rfl,rfl,i,r1⟩:=trodAll_cons r0;obtain⟨rfl,rfl,rfl⟩:=trodAll_nil r1;subst G;obtain rfl:args=#[v0,v1]:=by cases args;simp_all
 have k0:=o;have C:∀x∈F,x.block<W.heap.size:=by obtain⟨m,y⟩:=k0;exact DataW.trod_lt m _ _ _ y
 have A:=i;have D:∀x∈P,x.block<W.heap.size:=by obtain⟨m,y⟩:=A;exact DataW.trod_lt m _ _ _ y
 obtain⟨id,a,c,x,e,S,M,c',x',U,E,rfl,wf,u,I,hT,L,N⟩:=QgA (z 0 29 v0 rfl rfl) o;obtain⟨k,R,n,T,f,rfl,Hb,K,B,J⟩:=Qko (z 1 32 v1 rfl rfl) i;clear s r hval0;obtain⟨V,Q,O,g,Y⟩:=ers hL;refine(Qpi id a x M x' R c e c' U n T S E k f W W.heap.size Q O g g u I L N Hb K J B Y zL V).mono fun e W' ⟨he,bel⟩=> ?_;subst he;exact⟨_,rfl,_,_,_,[],_,_,Z,trodAll_mk1 (shut_bool underlying4 _),(trodAll_cons_mk (Below.trod laidOut oK (of_decide_eq_true oK) k0 bel C) (trodAll_cons_mk (Below.trod laidOut oK (of_decide_eq_true oK) A bel D) trodAll_mk0)),vr bel _,bel.frame _,fun h=>by cases h⟩
theorem lifted (os:Os)(started:os.Started)(H:Type)(enc:TypeId×Value ->H)(F:Stop.Interp):
  ReturnsInHanded {} Tryz.checked os 3 .any ((OpenSpec.ofChange Rows.fnExactHandleSpec).preRow enc prog Tryz.f3 Rows.fnExactHandleRow.domain false Rows.fnExactHandleRow.laid) (((OpenSpec.ofChange Rows.fnExactHandleSpec).at F).post enc prog Tryz.f3 false true false false):=by
 refine returnsInHanded_of_row (C:=Tryz.checked) (s:=OpenSpec.ofChange Rows.fnExactHandleSpec) own started oK func3
  (witness_row_at (enc:=enc) (C:=Tryz.checked) false (laidWorld os) #[Uo #[Ud 0,Ue,Ue,Ue,Ue],Uo #[Ud 0,Ue]] rfl oK oK oK
   (OpenSpec.preRow_of_B rfl 8 oK oK (laid_met os _))) ?_
 intro W base args j k before r q _ _ _ m _ _;exact contract H enc W base args j k before r q m
theorem said:Rows.FnExactHandleSaid:=
 OpenClaim.holds_of_cond 3 Tryz.f3 rfl rfl rfl rfl rfl rfl rfl ⟨rfl,rfl,rfl,rfl,rfl⟩ rfl rfl rfl rfl rfl oK func3 QoB
  (of_decide_eq_true oK) (by unfold Func.isWrapper;first|(rw [if_pos (by decide+kernel)];kernel_rfl)|(rw [if_neg (by decide+kernel)];exact⟨rfl,rfl⟩))
  (fun os started H enc _ F=>by rw [OpenClaim.pre_eq_preRow];exact lifted os started H enc F)
theorem plain (f:FuncId)(fn:Func)(hf:Tryz.pinned.checked.prog.funcNamed "loop.example/s02772/laws.FnExactHandle" =Uq f)(hfn:Tryz.pinned.checked.prog.funcs[f]? =Uq fn):
  true=Tryz.pinned.checked.prog.looks []/\∀(j:Nat) t,fn.params[j]? =Uq t ->Tryz.pinned.checked.prog.wantsStandIn t=false:=by
 obtain rfl:f=3:=Option.some.inj ((show prog.funcNamed "loop.example/s02772/laws.FnExactHandle" =Uq 3 by kernel_rfl).symm.trans hf)|>.symm;obtain rfl:fn=Tryz.f3:=(Option.some.inj (func3.symm.trans hfn)).symm;refine⟨oK,fun j t ht=> ?_⟩;rw [params3] at ht;have k:=Array.mem_of_getElem? ht;simp at k;rcases k with rfl|rfl
 ·exact(show prog.wantsStandIn 29=false by kernel_rfl)
 ·exact(show prog.wantsStandIn 32=false by kernel_rfl)
end Go.Proofs.YtedpomikcaemgaaGreatDoor.fnExactHandle
namespace Go.Proofs.YtedpomikcaemgaaGreatDoor
theorem handleCard:Rows.FnExactHandleCardSaid:=
 Claim7.holds_tied_plain_at .later [] _ _ _ _ fnExactHandle.said (fun _ h=>by cases h) oK (fun _ h=>by cases h) fnExactHandle_row_tie rfl ⟨rfl,rfl⟩ oK rfl fnExactHandle.plain oK
#print axioms handleCard
end Go.Proofs.YtedpomikcaemgaaGreatDoor
