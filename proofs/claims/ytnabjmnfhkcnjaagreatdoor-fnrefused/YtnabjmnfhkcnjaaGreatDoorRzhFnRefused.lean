import Derived.Test.YtnabjmnfhkcnjaaGreatDoorRzg08
import Derived.Test.YtnabjmnfhkcnjaaGreatDoorTie
import Derived.ChangeVars
import Derived.LaidHandle
import Derived.Deep.DeepHandedRow
import Derived.SevenTiedAt
set_option linter.unusedVariables false
set_option linter.unusedSimpArgs false
set_option maxRecDepth 100000
set_option maxHeartbeats 40000000
namespace Go.Proofs.YtnabjmnfhkcnjaaGreatDoor.fnRefused
open Go.ChangeShapes Go.WideShapes Go.ChangeAt Go.RowKit Go.Proofs.Tryz
open Option renaming none → Up, some → Uq
open Go renaming World → Ur, Addr → Us
open Go.Value renaming pointer → Uk, slice → Uf, int → Ug, string → Um, agg → Uo
open Go.Ending renaming returned → Ui
open Go.Obj renaming cells → Uj
variable {P:Program}{W:Ur}{n:String}{v:Value}
theorem own:ownKnob prog.godebug=Up:=oK
theorem laidOut:laidOutB prog=true:=oK
theorem cellsS:prog.cellsOf 391=1:=oK
theorem cells9:prog.cellsOf 9=1:=oK
theorem star: "*" ++ "errors.errorString" = "*errors.errorString" :=oD
theorem row (u:TypeId)(h:prog.typeName? 3 u=Uq "*errors.errorString"):u=371:=
 typeName_ptr_named (nm:= "errors.errorString") (by rw [star];kernel_rfl) oK oD u (by rw [star];exact h)
theorem rt:(prog.cutTypes.find? (·.1== "internal/reflectlite.rtype")).map (·.2)=Uq 200:=oK
theorem oneRow:((List.range 403).filter fun t=>prog.rowNamed t [101,114,114,111,114])=[63]:=oK
theorem size:prog.types.size=403:=oK
theorem gY:prog.globalNamed "errors.errorType" =Uq 5:=oK
theorem g0:prog.globalNamed "loop.example/s02772/impl.errEnds" =Uq 16:=oK
theorem g15:prog.globalNamed "loop.example/s02772/impl.errReplica" =Uq 0:=oK
theorem g16:prog.globalNamed "loop.example/s02772/impl.errOp" =Uq 1:=oK
theorem g17:prog.globalNamed "loop.example/s02772/impl.errChange" =Uq 2:=oK
theorem g19:prog.globalNamed "loop.example/s02772/impl.errNoRoom" =Uq 3:=oK
theorem laidMet_skip{x y:String×DataW Unit}{r:List (String×DataW Unit)}{w:Ur}(h:laidMet P (x::y::r) w):laidMet P (x::r) w:=by
 obtain⟨ps,M,i,E⟩:=h;obtain⟨n,d⟩:=x;obtain⟨V,d'⟩:=y;obtain⟨g,t,k,m,p,q,u,v,z,o,s,rfl⟩:=M;obtain⟨U,Z,O,Q,Y,j,_,_,_,_,A,rfl⟩:=s;refine⟨_++j,⟨g,t,k,m,p,j,u,v,z,o,A,rfl⟩,List.Nodup.sublist ?_ i,fun b off hm=>E b off ?_⟩
 ·exact(List.sublist_append_right _ j).append_left _
 ·rcases List.mem_append.1 hm with h|h
  ·exact List.mem_append_left _ h
  ·exact List.mem_append_right _ (List.mem_append_right _ h)
theorem iface_inj {tp:TypeId}{a b:Us}{o:Option (Array Value)}(h1:o=Uq #[.iface tp (Uk (Uq a))])(h2:o=Uq #[.iface tp (Uk (Uq b))]):a=b:=by
 rw [h1] at h2;simpa using h2
theorem vc{g:Nat}(hg:prog.globalNamed n=Uq g)(h:W.var? prog n=Uq #[v]):W.cell? (Ub g)=Uq v/\ g<W.1.size:=by
 have j:=World.var?_cell hg h 0;simp at j;exact⟨j,block_lt_of_cell j⟩
theorem ers(h:laidMetH prog Rows.fnRefusedRow.laid W):tD W:=by
 have o:laidMet prog [("loop.example/s02772/impl.errEnds",Rows.laid_loop_example_s02772_impl_errEnds),("loop.example/s02772/impl.errTenth",Rows.laid_loop_example_s02772_impl_errTenth),("loop.example/s02772/impl.errShorter",Rows.laid_loop_example_s02772_impl_errShorter),("loop.example/s02772/impl.errTooLong",Rows.laid_loop_example_s02772_impl_errTooLong),("loop.example/s02772/impl.errLimit",Rows.laid_loop_example_s02772_impl_errLimit),("loop.example/s02772/impl.errOrder",Rows.laid_loop_example_s02772_impl_errOrder),("loop.example/s02772/impl.errNoRuns",Rows.laid_loop_example_s02772_impl_errNoRuns),("loop.example/s02772/impl.errBehind",Rows.laid_loop_example_s02772_impl_errBehind),("loop.example/s02772/impl.errNoName",Rows.laid_loop_example_s02772_impl_errNoName),("loop.example/s02772/impl.errKind",Rows.laid_loop_example_s02772_impl_errKind),("loop.example/s02772/impl.errDeep",Rows.laid_loop_example_s02772_impl_errDeep),("loop.example/s02772/impl.errNoKeys",Rows.laid_loop_example_s02772_impl_errNoKeys),("loop.example/s02772/impl.errNoLeaves",Rows.laid_loop_example_s02772_impl_errNoLeaves),("loop.example/s02772/impl.errUnknown",Rows.laid_loop_example_s02772_impl_errUnknown),("loop.example/s02772/impl.errTwice",Rows.laid_loop_example_s02772_impl_errTwice),("loop.example/s02772/impl.errReplica",Rows.laid_loop_example_s02772_impl_errReplica),("loop.example/s02772/impl.errOp",Rows.laid_loop_example_s02772_impl_errOp),("loop.example/s02772/impl.errChange",Rows.laid_loop_example_s02772_impl_errChange),("loop.example/s02772/impl.errHello",Rows.laid_loop_example_s02772_impl_errHello),("loop.example/s02772/impl.errNoRoom",Rows.laid_loop_example_s02772_impl_errNoRoom)] W/\ handlesMet prog [("errors.errorType",Rows.laid_errors_errorType)] W:=h;obtain⟨j,i⟩:=o;obtain⟨p,u,s,r,v,y,z,k⟩:=i _ (List.mem_singleton.2 rfl);have g:p=[101,114,114,111,114]:=(Option.some.inj r).symm;subst g;obtain rfl:=Option.some.inj (rt.symm.trans v);have m:s∈(List.range 403).filter fun t=>prog.rowNamed t [101,114,114,111,114]:=List.mem_filter.2 ⟨List.mem_range.2 (size▸y),z⟩;rw [oneRow] at m;obtain rfl:=List.mem_singleton.1 m;have b:typeHandle prog 63=Uk (Uq (Ua 21 63)):=oK;rw [b] at k;have q:W.cell? (Ub 5)=Uq (.iface 200 (Uo #[Uk (Uq (Ua 21 63))])):=oU (World.var?_cell gY k 0);obtain⟨_,_,_,_,_,_,_,_,_,A,_⟩:=laid_sentinels2 (laidMet_skip (laidMet_skip (laidMet_skip (laidMet_skip (laidMet_skip (laidMet_skip (laidMet_skip (laidMet_skip (laidMet_skip (laidMet_skip (laidMet_skip (laidMet_skip (laidMet_skip (laidMet_skip j)))))))))))))) g0 oK g15 oK underlying63 row underlying371 underlying391 rfl rfl underlying9 cellsS cells9;obtain⟨_,_,_,_,_,_,_,_,_,E,_⟩:=laid_sentinels2 (laidMet_skip (laidMet_skip (laidMet_skip (laidMet_skip (laidMet_skip (laidMet_skip (laidMet_skip (laidMet_skip (laidMet_skip (laidMet_skip (laidMet_skip (laidMet_skip (laidMet_skip (laidMet_skip (laidMet_skip j))))))))))))))) g0 oK g16 oK underlying63 row underlying371 underlying391 rfl rfl underlying9 cellsS cells9;obtain⟨_,_,_,_,_,_,_,_,_,M,_⟩:=laid_sentinels2 (laidMet_skip (laidMet_skip (laidMet_skip (laidMet_skip (laidMet_skip (laidMet_skip (laidMet_skip (laidMet_skip (laidMet_skip (laidMet_skip (laidMet_skip (laidMet_skip (laidMet_skip (laidMet_skip (laidMet_skip (laidMet_skip j)))))))))))))))) g0 oK g17 oK underlying63 row underlying371 underlying391 rfl rfl underlying9 cellsS cells9;obtain⟨_,_,_,_,_,_,_,_,_,O,_⟩:=laid_sentinels2 (laidMet_skip (laidMet_skip (laidMet_skip (laidMet_skip (laidMet_skip (laidMet_skip (laidMet_skip (laidMet_skip (laidMet_skip (laidMet_skip (laidMet_skip (laidMet_skip (laidMet_skip (laidMet_skip (laidMet_skip (laidMet_skip (laidMet_skip (laidMet_skip j)))))))))))))))))) g0 oK g19 oK underlying63 row underlying371 underlying391 rfl rfl underlying9 cellsS cells9;exact⟨⟨_,_,(vc g15 A).1⟩,⟨_,_,(vc g16 E).1⟩,⟨_,_,(vc g17 M).1⟩,⟨_,_,(vc g19 O).1⟩,q⟩
theorem var?_below{W':Ur}{cs:Array Value}(h:W.var? P n=Uq cs)(hb:Bl W W'):W'.var? P n=Uq cs:=by
 unfold World.var? at h ⊢;cases hg:P.globalNamed n with
 | none=>simp [hg] at h
 | some g=>
  simp only [hg,Option.bind_some] at h ⊢;have k:g<W.1.size:=by
   rcases Nat.lt_or_ge g W.1.size with j|j
   ·exact j
   ·simp [Array.getElem?_eq_none j] at h
  rw [hb.block g k];exact h
theorem trod_iface {H:Type}{enc:TypeId×Value ->H}{t:TypeId}{ms:Array (String×TypeId)}(ht:P.underlying t=Uq (.interface ms)){sp:Nat ->Bool}{fuel:Nat}{cs:List Value}{y:DataW H×List MemPlace}
  (h:DataW.trod enc P W 0 sp true fuel t cs=Uq y) (W':Ur) (sp':Nat ->Bool):DataW.trod enc P W' 0 sp' true fuel t cs=Uq y:=by
 cases fuel with
 | zero=>simp [DataW.trod] at h
 | succ n=>
  unfold DataW.trod at h ⊢;rw [ht] at h ⊢;match cs,h with
  | [],h=>simp at h
  | [v],h=>cases v<;>simp at h ⊢<;>exact h
  | _::_::_,h=>simp at h
theorem vars_below {H:Type}{enc:TypeId×Value ->H}{P:Program}{t:TypeId}{ms:Array (String×TypeId)}(ht:P.underlying t=Uq (.interface ms)){W W':Ur}{sp:Nat ->Bool}(hb:Bl W W')(sp':Nat ->Bool):
  ∀(ns:List String) (gs:List (DataW H)) (q:List MemPlace),(∀n∈ns,(P.globalNamed n).bind (fun g=>(P.globals[g]?).map (·.type))=Uq t) ->DataW.TrodVars enc P W sp ns gs q ->DataW.TrodVars enc P W' sp' ns gs q
 | [],[],q,_,h=>h
 | [],_::_,_,_,h=>h.elim
 | _::_,[],_,_,h=>h.elim
 | n::ns,d::ds,q,hn,h=>by
  obtain⟨g,u,v,y,p,r,j,k,z,o,i,b⟩:=h;have e:u=t:=by
   have:=hn n (List.mem_cons_self);rw [j,Option.bind_some,k] at this;exact Option.some.inj this
  subst e;exact⟨g,u,v,y,p,r,j,k,var?_below z hb,trod_iface ht o W' sp',vars_below ht hb sp' ns ds r (fun m hm=>hn m (List.mem_cons_of_mem _ hm)) i,b⟩
theorem vars_len {H:Type}{enc:TypeId×Value ->H}{P:Program}{W:Ur}{sp:Nat ->Bool}:∀{ns:List String} {gs:List (DataW H)} {q:List MemPlace},DataW.TrodVars enc P W sp ns gs q ->gs.length=ns.length
 | [],[],_,_=>rfl
 | [],_::_,_,h=>h.elim
 | _::_,[],_,h=>h.elim
 | _::_,_::_,_,h=>by
  obtain⟨_,_,_,_,_,_,_,_,_,_,j,_⟩:=h;simp [vars_len j]
theorem vars_type:∀n∈Rows.fnRefusedSpec.vars,(prog.globalNamed n).bind (fun g=>(prog.globals[g]?).map (·.type))=Uq 63:=by
 have h:(Rows.fnRefusedSpec.vars.all fun n=>decide ((prog.globalNamed n).bind (fun g=>(prog.globals[g]?).map (·.type))=Uq 63))=true:=oK;intro n j;exact of_decide_eq_true (List.all_eq_true.1 h n j)
theorem vars_all {H:Type}{enc:TypeId×Value ->H}{sp:Nat ->Bool}{gs:List (DataW H)}{q:List MemPlace}(h:DataW.TrodVars enc prog W sp Rows.fnRefusedSpec.vars gs q):∃g1 g2 g3 g4 g5 g6 g7 g8 g9 g10 g11 g12 g13 g14 g15 g16 g17 g18 g19 g20,gs=[g1,g2,g3,g4,g5,g6,g7,g8,g9,g10,g11,g12,g13,g14,g15,g16,g17,g18,g19,g20]:=by
 have j:gs.length=20:=(vars_len h).trans rfl;match gs,j with
 | [g1,g2,g3,g4,g5,g6,g7,g8,g9,g10,g11,g12,g13,g14,g15,g16,g17,g18,g19,g20],_=>exact⟨_,_,_,_,_,_,_,_,_,_,_,_,_,_,_,_,_,_,_,_,rfl⟩
noncomputable def low:Nat:=(World.holding prog default ⟨#[],#[],[]⟩).1.size
def setAt (h:Array Obj)(g:Nat)(vs:Array Value):Array Obj:=h.modify g fun
 | .cells _ t frozen=> .cells vs t frozen
 | o=>o
noncomputable def laidWorld (os:Os):Ur:=
 let L:=Rows.fnRefusedRow.laid.drop 1
 let w0:=World.holding prog os ⟨(L.map fun p=>(match p.2 with
  | .iface _ (.ptr (.agg [.lit (.string b)]))=> Uj #[Um ⟨b.toArray⟩] 391
  | _=> Uj #[] 391:Obj)).toArray,#[],[]⟩
 {w0 with heap:=L.zipIdx.foldl (fun h p=>setAt h ((prog.globalNamed p.1.1).getD 0) #[.iface 371 (Uk (Uq (Ua (low+p.2) 0)))]) (setAt w0.heap 5 #[.iface 200 (Uo #[Uk (Uq (Ua 21 63))])])}
theorem openBytesC {H:Type}{enc:TypeId×Value ->H}{r:Reach}{b0 base:Nat}{held:Bool}{d:DataW H}{p:List MemPlace}
  (hval:Value.okWide prog W r b0 22 v) (h:DataW.Trod enc prog W base (fun _=>true) held 22 v d p):
  ∃a n c f,v=Uf a n c/\ n<=9223372036854775807/\ bY W a n f/\ dO f/\ n<=c:=by
 obtain⟨q,y,k,rfl⟩:=okWide_slice underlying22 hval;obtain⟨j,g⟩:∃j:List Int,(q=Up/\ y=0/\ k=0/\ j=[]) \/∃x,q=Uq x/\ y<=k/\ k<=maxLen/\ j.length=k/\ (∀i,i<j.length ->W.cell? (x.add i)=Uq (Ug .u8 (j.getD i 0)))/\∀n∈j,(Lit.int .u8 n).wf=true:=by
  obtain⟨Q,A⟩:=h;rcases open_ints underlying22 underlying5 oK A with ⟨m,_⟩|⟨x,l,c,O,m,_,u,E,z,_,b,M⟩
  ·simp [Value.cells] at m;obtain⟨rfl,rfl,rfl⟩:=m;exact⟨[],.inl ⟨rfl,rfl,rfl,rfl⟩⟩
  ·simp [Value.cells] at m;obtain⟨rfl,rfl,rfl⟩:=m;exact⟨O,.inr ⟨_,rfl,u,E,by first|exact z|simpa using z|omega,b,M⟩⟩
 obtain⟨s,o,u⟩:=GG g;exact⟨q,y,k,_,rfl,u,s,o,by rcases g with ⟨_,t,U,_⟩|⟨_,_,t,_⟩<;>omega⟩
theorem laid_met (os:Os)(args:Array Value):laidMetH prog Rows.fnRefusedRow.laid ((laidWorld os).forCall (fun _ _=>0) ⟨#[],args,[]⟩).memory:=
 laidMetH_of_parts (laidMet_of_run' 8 oK oK) oK
theorem contract (H:Type)(enc:TypeId×Value ->H)(W:Ur)(base:Nat)(args:Array Value)(ds gs:List (DataW H))(before:List MemPlace)
  (hval0:∀(j:Nat) t v,Tryz.f3.params[j]? =Uq t ->args[j]? =Uq v ->Value.okWide prog W .any base t v)
  (hW:DataW.Whole enc prog Tryz.f3.params.toList Rows.fnRefusedSpec.vars false W args.toList ds gs before) (hL:laidMetH prog Rows.fnRefusedRow.laid W):
  Cl 3 args W fun e W'=>∃v,e=Ui v/\ Rows.fnRefusedSpec.post enc prog Tryz.f3 false true false false W args v W':=by
 have z:∀(j:Nat) t v,Tryz.f3.params[j]? =Uq t ->args[j]? =Uq v ->Value.okWide prog W .any base t v:=hval0;have i:=hW;obtain⟨p,q,y,k,rfl,Hb,Hc⟩:=hW;have u:DataW.TrodAll enc prog W 0 (fun _=>true) true Tryz.f3.params.toList args.toList ds p:=y;have V:∀{X:Ur},Bl W X ->∀sp:Nat ->Bool,DataW.TrodVars enc prog X sp Rows.fnRefusedSpec.vars gs q:=fun hb sp=>vars_below underlying63 hb sp _ _ _ vars_type k;obtain⟨G,R,T,g4,g5,g6,g7,g8,g9,I,J,K,L,N,B,C,D,F,P,S,rfl⟩:=vars_all k;rw [params3] at u z;obtain⟨o,Hd,Y,Z,Q,q0,Ha,rfl,rfl,r,U⟩:=trodAll_cons u;obtain⟨rfl,rfl,rfl⟩:=trodAll_nil U;obtain rfl:args=#[o]:=by cases args;simp_all
 have g:=r;have O:∀x∈Q,x.block<W.1.size:=by obtain⟨m,A⟩:=g;exact DataW.trod_lt m _ _ _ A
 obtain⟨a,n,c,f,rfl,E,s,b,M⟩:=openBytesC (z 0 22 o rfl rfl) r;clear y k hval0;refine(MS W a n c f E M s b (ers hL)).mono fun e W' ⟨he,bel⟩=> ?_;subst he;exact⟨_,rfl,_,_,_,[],_,_,i,trodAll_mk1 (shut_bool underlying4 _),(trodAll_cons_mk (Below.trod laidOut oK (of_decide_eq_true oK) g bel O) trodAll_mk0),V bel _,bel.frame _,fun h=>by cases h⟩
theorem lifted (os:Os)(started:os.Started)(H:Type)(enc:TypeId×Value ->H)(F:Stop.Interp):
  ReturnsInHanded {} Tryz.checked os 3 .any ((OpenSpec.ofChange Rows.fnRefusedSpec).preRow enc prog Tryz.f3 Rows.fnRefusedRow.domain false Rows.fnRefusedRow.laid) (((OpenSpec.ofChange Rows.fnRefusedSpec).at F).post enc prog Tryz.f3 false true false false):=by
 refine returnsInHanded_of_row (C:=Tryz.checked) (s:=OpenSpec.ofChange Rows.fnRefusedSpec) own started oK func3
  (witness_row_at (enc:=enc) (C:=Tryz.checked) false (laidWorld os) #[Ue] rfl oK oK oK
   (OpenSpec.preRow_of_B rfl 8 oK oK (laid_met os _))) ?_
 intro W base args k m j u r _ _ _ q _ _;exact contract H enc W base args k m j u r q
theorem said:Rows.FnRefusedSaid:=
 OpenClaim.holds_of_cond 3 Tryz.f3 rfl rfl rfl rfl rfl rfl rfl ⟨rfl,rfl,rfl,rfl,rfl⟩ rfl rfl rfl rfl rfl oK func3 GR
  (of_decide_eq_true oK) (by unfold Func.isWrapper;first|(rw [if_pos (by decide+kernel)];kernel_rfl)|(rw [if_neg (by decide+kernel)];exact⟨rfl,rfl⟩))
  (fun os started H enc _ F=>by rw [OpenClaim.pre_eq_preRow];exact lifted os started H enc F)
theorem plain (f:FuncId)(fn:Func)(hf:Tryz.pinned.checked.prog.funcNamed "loop.example/s02772/laws.FnRefused" =Uq f)(hfn:Tryz.pinned.checked.prog.funcs[f]? =Uq fn):
  true=Tryz.pinned.checked.prog.looks []/\∀(j:Nat) t,fn.params[j]? =Uq t ->Tryz.pinned.checked.prog.wantsStandIn t=false:=by
 obtain rfl:f=3:=Option.some.inj ((show prog.funcNamed "loop.example/s02772/laws.FnRefused" =Uq 3 by kernel_rfl).symm.trans hf)|>.symm;obtain rfl:fn=Tryz.f3:=(Option.some.inj (func3.symm.trans hfn)).symm;refine⟨oK,fun j t ht=> ?_⟩;rw [params3] at ht;have k:=Array.mem_of_getElem? ht;simp at k;subst k;exact(show prog.wantsStandIn 22=false by kernel_rfl)
end Go.Proofs.YtnabjmnfhkcnjaaGreatDoor.fnRefused
namespace Go.Proofs.YtnabjmnfhkcnjaaGreatDoor
theorem fnRefusedCard:Rows.FnRefusedCardSaid:=
 Claim7.holds_tied_plain_at .later [] _ _ _ _ fnRefused.said (fun _ h=>by cases h) oK (fun _ h=>by cases h) fnRefused_row_tie rfl ⟨rfl,rfl⟩ oK rfl fnRefused.plain oK
#print axioms fnRefusedCard
end Go.Proofs.YtnabjmnfhkcnjaaGreatDoor
