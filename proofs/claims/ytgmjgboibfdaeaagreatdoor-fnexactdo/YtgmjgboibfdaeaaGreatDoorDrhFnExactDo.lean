import Derived.Test.YtgmjgboibfdaeaaGreatDoorDrg21
import Derived.Test.YtgmjgboibfdaeaaGreatDoorCards
import Derived.Test.YtgmjgboibfdaeaaGreatDoorTie
import Derived.ChangeVars
import Derived.LaidHandle
import Derived.Deep.DeepHandedRow
import Derived.SevenTiedAt
set_option linter.unusedVariables false
set_option linter.unusedSimpArgs false
set_option maxRecDepth 100000
set_option maxHeartbeats 40000000
namespace Go.Proofs.YtgmjgboibfdaeaaGreatDoor.fnExactDo
open Go.ChangeShapes Go.WideShapes Go.ChangeAt Go.RowKit Go.Proofs.Tryz
theorem own:ownKnob prog.godebug=none:=by kernel_rfl
theorem Qa:laidOutB prog=true:=by kernel_rfl
theorem Qb:prog.cellsOf 332=1:=by kernel_rfl
theorem Qc:prog.cellsOf 9=1:=by kernel_rfl
theorem Qd: "*" ++ "errors.errorString" = "*errors.errorString" :=by decide
theorem row (u:TypeId)(h:prog.typeName? 3 u=some "*errors.errorString"):u=311:=
 typeName_ptr_named (nm:= "errors.errorString") (by rw [Qd];kernel_rfl) (by kernel_rfl) (by decide) u (by rw [Qd];exact h)
theorem rt:(prog.cutTypes.find? (·.1== "internal/reflectlite.rtype")).map (·.2)=some 173:=by kernel_rfl
theorem Qe:((List.range 350).filter fun t=>prog.rowNamed t [101,114,114,111,114])=[65]:=by kernel_rfl
theorem size:prog.types.size=350:=by kernel_rfl
theorem gY:prog.globalNamed "errors.errorType" =some 4:=by kernel_rfl
theorem g0:prog.globalNamed "loop.example/s02772/impl.errReplica" =some 0:=by kernel_rfl
theorem t0:(prog.globals[0]?).map (·.type)=some 65:=by kernel_rfl
theorem g1:prog.globalNamed "loop.example/s02772/impl.errOp" =some 1:=by kernel_rfl
theorem t1:(prog.globals[1]?).map (·.type)=some 65:=by kernel_rfl
theorem g2:prog.globalNamed "loop.example/s02772/impl.errChange" =some 2:=by kernel_rfl
theorem t2:(prog.globals[2]?).map (·.type)=some 65:=by kernel_rfl
theorem g3:prog.globalNamed "loop.example/s02772/impl.errNoRoom" =some 3:=by kernel_rfl
theorem t3:(prog.globals[3]?).map (·.type)=some 65:=by kernel_rfl
theorem erd {W:World}(h:laidMetH prog Rows.fnExactDoRow.laid W):ErD W:=by
 have g:laidMet prog [("loop.example/s02772/impl.errReplica",Rows.laid_loop_example_s02772_impl_errReplica),("loop.example/s02772/impl.errOp",Rows.laid_loop_example_s02772_impl_errOp),("loop.example/s02772/impl.errChange",Rows.laid_loop_example_s02772_impl_errChange),("loop.example/s02772/impl.errNoRoom",Rows.laid_loop_example_s02772_impl_errNoRoom)] W/\ handlesMet prog [("errors.errorType",Rows.laid_errors_errorType)] W:=h;obtain⟨k,o⟩:=g;obtain⟨b,u,p,q,r,v,y,j⟩:=o _ (List.mem_singleton.2 rfl);have z:b=[101,114,114,111,114]:=(Option.some.inj q).symm;subst z;obtain rfl:=Option.some.inj (rt.symm.trans r);have m:p∈(List.range 350).filter fun t=>prog.rowNamed t [101,114,114,111,114]:=List.mem_filter.2 ⟨List.mem_range.2 (by rw [<- size];exact v),y⟩;rw [Qe] at m;obtain rfl:=List.mem_singleton.1 m;have i:typeHandle prog 65=.pointer (some ⟨5,65,none⟩):=by kernel_rfl
 rw [i] at j;obtain⟨s,A,_,_,_,_,_,_,v0,v1,_⟩:=laid_sentinels2 k g0 t0 g1 t1 underlying65 row underlying311 underlying332 rfl rfl underlying9 Qb Qc;obtain⟨E,M,_,_,_,_,_,_,v2,v3,_⟩:=laid_sentinels2 k.tail.tail g2 t2 g3 t3 underlying65 row underlying311 underlying332 rfl rfl underlying9 Qb Qc;exact⟨⟨_,_,by simpa using World.var?_cell g0 v0 0⟩,⟨_,_,by simpa using World.var?_cell g1 v1 0⟩,⟨_,_,by simpa using World.var?_cell g2 v2 0⟩,⟨_,_,by simpa using World.var?_cell g3 v3 0⟩,by simpa using World.var?_cell gY j 0⟩
theorem var?_below {P:Program}{W W':World}{n:String}{cs:Array Value}(h:W.var? P n=some cs)(hb:Bl W W'):W'.var? P n=some cs:=by
 unfold World.var? at h ⊢;cases hg:P.globalNamed n with
 | none=>simp [hg] at h
 | some g=>
  simp only [hg,Option.bind_some] at h ⊢;have k:g<W.heap.size:=by
   rcases Nat.lt_or_ge g W.heap.size with j|j
   ·exact j
   ·simp [Array.getElem?_eq_none j] at h
  rw [hb.block g k];exact h
theorem Qf {H:Type}{enc:TypeId×Value ->H}{P:Program}{t:TypeId}{ms:Array (String×TypeId)}(ht:P.underlying t=some (.interface ms)){W:World}{sp:Nat ->Bool}{fuel:Nat}{cs:List Value}{y:DataW H×List MemPlace}
  (h:DataW.trod enc P W 0 sp true fuel t cs=some y) (W':World) (sp':Nat ->Bool):DataW.trod enc P W' 0 sp' true fuel t cs=some y:=by
 cases fuel with
 | zero=>simp [DataW.trod] at h
 | succ n=>
  unfold DataW.trod at h ⊢;rw [ht] at h ⊢;match cs,h with
  | [],h=>simp at h
  | [v],h=>cases v<;>simp at h ⊢<;>exact h
  | _::_::_,h=>simp at h
theorem Qg {H:Type}{enc:TypeId×Value ->H}{P:Program}{t:TypeId}{ms:Array (String×TypeId)}(ht:P.underlying t=some (.interface ms)){W W':World}{sp:Nat ->Bool}(hb:Bl W W')(sp':Nat ->Bool):
  ∀(ns:List String) (gs:List (DataW H)) (q:List MemPlace),(∀n∈ns,(P.globalNamed n).bind (fun g=>(P.globals[g]?).map (·.type))=some t) ->DataW.TrodVars enc P W sp ns gs q ->DataW.TrodVars enc P W' sp' ns gs q
 | [],[],q,_,h=>h
 | [],_::_,_,_,h=>h.elim
 | _::_,[],_,_,h=>h.elim
 | n::ns,d::ds,q,hn,h=>by
  obtain⟨g,u,v,y,p,r,j,k,z,o,i,b⟩:=h;have e:u=t:=by
   have:=hn n (List.mem_cons_self);rw [j,Option.bind_some,k] at this;exact Option.some.inj this
  subst e;exact⟨g,u,v,y,p,r,j,k,var?_below z hb,Qf ht o W' sp',Qg ht hb sp' ns ds r (fun m hm=>hn m (List.mem_cons_of_mem _ hm)) i,b⟩
theorem Qh {H:Type}{enc:TypeId×Value ->H}{P:Program}{W:World}{sp:Nat ->Bool}:∀{ns:List String} {gs:List (DataW H)} {q:List MemPlace},DataW.TrodVars enc P W sp ns gs q ->gs.length=ns.length
 | [],[],_,_=>rfl
 | [],_::_,_,h=>h.elim
 | _::_,[],_,h=>h.elim
 | _::_,_::_,_,h=>by
  obtain⟨_,_,_,_,_,_,_,_,_,_,j,_⟩:=h;simp [Qh j]
theorem Qi:∀n∈Rows.fnExactDoSpec.vars,(prog.globalNamed n).bind (fun g=>(prog.globals[g]?).map (·.type))=some 65:=by
 have h:(Rows.fnExactDoSpec.vars.all fun n=>decide ((prog.globalNamed n).bind (fun g=>(prog.globals[g]?).map (·.type))=some 65))=true:=by kernel_rfl
 intro n j;exact of_decide_eq_true (List.all_eq_true.1 h n j)
theorem Qj {H:Type}{enc:TypeId×Value ->H}{W:World}{sp:Nat ->Bool}{gs:List (DataW H)}{q:List MemPlace}(h:DataW.TrodVars enc prog W sp Rows.fnExactDoSpec.vars gs q):∃g1 g2 g3 g4,gs=[g1,g2,g3,g4]:=by
 have j:gs.length=4:=(Qh h).trans rfl;match gs,j with
 | [g1,g2,g3,g4],_=>exact⟨_,_,_,_,rfl⟩
noncomputable def low:Nat:=(World.holding prog default ⟨#[],#[],[]⟩).heap.size
def Qk (h:Array Obj)(g:Nat)(vs:Array Value):Array Obj:=h.modify g fun
 | .cells _ t frozen=> .cells vs t frozen
 | o=>o
noncomputable def Ql (os:Os):World:=
 let w0:=World.holding prog os ⟨#[.cells #[.string {data:=#[116,104,101,32,114,101,112,108,105,99,97,32,105,115,32,110,111,116,32,118,97,108,105,100]}] 332,.cells #[.string {data:=#[116,104,101,114,101,32,105,115,32,110,111,32,115,117,99,104,32,99,104,97,110,103,101]}] 332,.cells #[.string {data:=#[116,104,101,32,115,116,97,116,101,32,100,111,101,115,32,110,111,116,32,116,97,107,101,32,116,104,101,32,99,104,97,110,103,101]}] 332,.cells #[.string {data:=#[97,32,115,116,97,116,101,32,119,111,117,108,100,32,98,101,32,97,98,111,118,101,32,105,116,115,32,108,105,109,105,116,115]}] 332],#[],[]⟩
 {w0 with heap:=(Qk (Qk (Qk (Qk (Qk w0.heap 4 #[.iface 173 (.agg #[.pointer (some ⟨5,65,none⟩)])]) 0 #[.iface 311 (.pointer (some ⟨low+0,0,none⟩))]) 1 #[.iface 311 (.pointer (some ⟨low+1,0,none⟩))]) 2 #[.iface 311 (.pointer (some ⟨low+2,0,none⟩))]) 3 #[.iface 311 (.pointer (some ⟨low+3,0,none⟩))])}
theorem Qm (os:Os)(args:Array Value):laidMetH prog Rows.fnExactDoRow.laid ((Ql os).forCall (fun _ _=>0) ⟨#[],args,[]⟩).memory:=
 laidMetH_of_parts (laidMet_of_run' 8 (by kernel_rfl) (by kernel_rfl)) (by kernel_rfl)
theorem Qn (H:Type)(enc:TypeId×Value ->H)(W:World)(base:Nat)(args:Array Value)(ds gs:List (DataW H))(before:List MemPlace)
  (hval0:∀(j:Nat) t v,f3.params[j]? =some t ->args[j]? =some v ->Value.okWide prog W .any base t v)
  (hW:DataW.Whole enc prog f3.params.toList Rows.fnExactDoSpec.vars false W args.toList ds gs before) (hL:laidMetH prog Rows.fnExactDoRow.laid W):
  Cl 3 args W fun e W'=>∃v,e=.returned v/\ Rows.fnExactDoSpec.post enc prog f3 false true false false W args v W':=by
 have z:∀(j:Nat) t v,f3.params[j]? =some t ->args[j]? =some v ->Value.okWide prog W .any base t v:=hval0;have U:=hW;obtain⟨p,q,b,r,rfl,Hd,He⟩:=hW;have i:DataW.TrodAll enc prog W 0 (fun _=>true) true f3.params.toList args.toList ds p:=b;have R:∀{X:World},Bl W X ->∀sp:Nat ->Bool,DataW.TrodVars enc prog X sp Rows.fnExactDoSpec.vars gs q:=fun u sp=>Qg underlying65 u sp _ _ _ Qi r;obtain⟨g1,g2,g3,g4,rfl⟩:=Qj r;rw [params3] at i z;obtain⟨v0,Hf,d0,Hb,B,q0,Ha,rfl,rfl,g,P⟩:=trodAll_cons i;obtain⟨v1,Hg,d1,Hc,C,q1,V,rfl,rfl,o,r1⟩:=trodAll_cons P;obtain⟨rfl,rfl,rfl⟩:=trodAll_nil r1;subst V;obtain rfl:args=#[v0,v1]:=by cases args;simp_all
 have k0:=g;have L:∀x∈B,x.block<W.heap.size:=by obtain⟨m,y⟩:=k0;exact DataW.trod_lt m _ _ _ y
 have A:=o;have N:∀x∈C,x.block<W.heap.size:=by obtain⟨m,y⟩:=A;exact DataW.trod_lt m _ _ _ y
 obtain⟨id,a,c,x,e,S,M,c',x',O,E,rfl,T,u,Y,Q,G,I⟩:=Qf2 (z 0 29 v0 rfl rfl) g;obtain⟨k,D,F,pc,s,rfl,J,Z,K⟩:=QmZ (z 1 32 v1 rfl rfl) o;clear b r hval0;refine(Qmx id a x M x' D c e c' O pc S E k F s W u Y Q G I T Z K J (erd hL)).mono fun e W' ⟨he,bel⟩=> ?_;subst he;exact⟨_,rfl,_,_,_,[],_,_,U,trodAll_mk1 (shut_bool underlying4 _),(trodAll_cons_mk (Below.trod Qa (by kernel_rfl) (of_decide_eq_true (by kernel_rfl)) k0 bel L) (trodAll_cons_mk (Below.trod Qa (by kernel_rfl) (of_decide_eq_true (by kernel_rfl)) A bel N) trodAll_mk0)),R bel _,bel.frame _,fun h=>by cases h⟩
theorem Qo (os:Os)(started:os.Started)(H:Type)(enc:TypeId×Value ->H)(F:Stop.Interp):
  ReturnsInHanded {} checked os 3 .any ((OpenSpec.ofChange Rows.fnExactDoSpec).preRow enc prog f3 Rows.fnExactDoRow.domain false Rows.fnExactDoRow.laid) (((OpenSpec.ofChange Rows.fnExactDoSpec).at F).post enc prog f3 false true false false):=by
 refine returnsInHanded_of_row (C:=checked) (s:=OpenSpec.ofChange Rows.fnExactDoSpec) own started (by kernel_rfl) func3
  (witness_row_at (enc:=enc) (C:=checked) false (Ql os) #[.agg #[.int .i64 0,.slice none 0 0,.slice none 0 0,.slice none 0 0,.slice none 0 0],.agg #[.int .i64 0,.slice none 0 0,.string ByteArray.empty]] rfl (by kernel_rfl) (by kernel_rfl) (by kernel_rfl)
   (OpenSpec.preRow_of_B rfl 8 (by kernel_rfl) (by kernel_rfl) (Qm os _))) ?_
 intro W base args k m j u r _ _ _ q _ _;exact Qn H enc W base args k m j u r q
theorem said:Rows.FnExactDoSaid:=
 OpenClaim.holds_of_cond 3 f3 rfl rfl rfl rfl rfl rfl rfl ⟨rfl,rfl,rfl,rfl,rfl⟩ rfl rfl rfl rfl rfl (by kernel_rfl) func3 (by kernel_rfl)
  (of_decide_eq_true (by kernel_rfl)) (by unfold Func.isWrapper;first|(rw [if_pos (by decide+kernel)];kernel_rfl)|(rw [if_neg (by decide+kernel)];exact⟨rfl,rfl⟩))
  (fun os started H enc _ F=>by rw [OpenClaim.pre_eq_preRow];exact Qo os started H enc F)
theorem plain (f:FuncId)(fn:Func)(hf:Tryz.pinned.checked.prog.funcNamed "loop.example/s02772/laws.FnExactDo" =some f)(hfn:Tryz.pinned.checked.prog.funcs[f]? =some fn):
  true=Tryz.pinned.checked.prog.looks []/\∀(j:Nat) t,fn.params[j]? =some t ->Tryz.pinned.checked.prog.wantsStandIn t=false:=by
 obtain rfl:f=3:=Option.some.inj ((show prog.funcNamed "loop.example/s02772/laws.FnExactDo" =some 3 by kernel_rfl).symm.trans hf)|>.symm;obtain rfl:fn=f3:=(Option.some.inj (func3.symm.trans hfn)).symm;refine⟨by kernel_rfl,fun j t ht=> ?_⟩;rw [params3] at ht;have k:=Array.mem_of_getElem? ht;simp at k;rcases k with rfl|rfl
 ·exact(show prog.wantsStandIn 29=false by kernel_rfl)
 ·exact(show prog.wantsStandIn 32=false by kernel_rfl)
end Go.Proofs.YtgmjgboibfdaeaaGreatDoor.fnExactDo
namespace Go.Proofs.YtgmjgboibfdaeaaGreatDoor
theorem doCard:Rows.FnExactDoCardSaid:=
 Claim7.holds_tied_plain_at .later [] _ _ _ _ fnExactDo.said (fun _ h=>by cases h) (by kernel_rfl) (fun _ h=>by cases h) fnExactDo_row_tie rfl ⟨rfl,rfl⟩ (by kernel_rfl) rfl fnExactDo.plain (by kernel_rfl)
#print axioms doCard
end Go.Proofs.YtgmjgboibfdaeaaGreatDoor
