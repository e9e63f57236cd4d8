import Derived.Test.YtjdcfkmhmnblbaaGreatDoorFqg20
import Derived.Test.YtjdcfkmhmnblbaaGreatDoorFqhLag
set_option linter.unusedVariables false
set_option linter.unusedSimpArgs false
set_option maxRecDepth 100000
set_option maxHeartbeats 40000000
namespace Go.Proofs.YtjdcfkmhmnblbaaGreatDoor
open Go.ChangeShapes Go.WideShapes Go.ChangeAt Go.RowKit Go.Deep
theorem fnStrictWalk (w:World)(a:Option Addr)(n c:Nat)(f:Nat ->Int)(aT aS aL aE:Addr)(hn:n<=9223372036854775807)(hc:n<=c)(hs:Seg w a n f)(hf:Byt f)(hE:QcQ w w.heap.size aT aS aL aE):
  Calls Tryz.prog 3 #[.slice a n c] w fun e w'=>e=.returned (.bool true)/\ Below w.heap.size w w':=by
 by_cases h1:n<=1048576
 ·have i1:¬(1048576:Int)<(n:Int):=by omega
  have HD:=hid (Qkf a n c f w hc hn hs hf);have HE:=hid hE;clear hs hf hE;go_enter Tryz.func3,Tryz.ntmps3;go_wp2_with fail;refine HD.mono ?_;rintro e k ⟨⟨v,s,rfl,W,hl⟩,b1⟩;clear HD;obtain⟨p,q,rfl,X,Q,B⟩:∃p q,v=.slice p s.length q/\ (s.length<=q/\ q<=9223372036854775807)/\ Seg k p s.length (fun i=>s.getD i 0)/\∀y,p=some y ->y.block<k.heap.size:=Qjt W.1;have O:Byt (fun i=>s.getD i 0):=QcT W.2;obtain⟨g,hg⟩:∃g,(fun i=>s.getD i 0)=g:=⟨_,rfl⟩;rw [hg] at Q O;obtain⟨m,A⟩:∃m,s.length=m:=⟨_,rfl⟩;rw [A] at Q X hl ⊢;have HS:=hid Q;have Y:=hid b1;have HF:=hid O;have HQ:=hid X;have Hm:=hid B;have Hg:m<=9223372036854775807:=by omega
  have j:=hid (QmT p m q g k Hg X.1 O Q B);obtain⟨Z,N⟩:∃Z,gsX g m=Z:=⟨_,rfl⟩;obtain⟨K,S⟩:∃K,gsK g m=K:=⟨_,rfl⟩;have G:=hid (QoA g m);have H:=hid (Qn2 O m);rw [N,S] at j G;rw [N] at H;have J:=hid (And.intro N S);clear W Q O hg A b1 B X hl N S;go_wp2_with fail;refine j.mono ?_;rintro e v2 ⟨b2,z,h,o,r,rfl,_⟩;have HI:Hid (∀u,Below k.heap.size k u ->Calls Tryz.prog 6 #[.slice p m q] u fun e w'=>Below u.heap.size u w'/\∃z h o r,e=.returned (.tuple #[.agg #[.slice z Z.l.length h,.slice o Z.n r],.int .i64 K])/\ SOw w' u.heap.size w'.heap.size z o r Z):=hid (fun u hu=>by
   have:=Qmq w.heap.size p m q g aT aS aL aE u Hg HQ.1 HQ.2 HF.out (HS.below hu) (HE.below (Qac Y.out hu)) (Qac Y.out hu).size (fun y hy=>Nat.lt_of_lt_of_le (Hm y hy) hu.size);rw [J.1,J.2] at this;exact this)
  have Hc:=hid b2;clear b2 j;obtain⟨U2,T⟩:∃U,v2.alloc (.cells #[.slice z Z.l.length h,.slice o Z.n r] 29)=U:=⟨_,rfl⟩;have F:Hid (Below k.heap.size k U2):=hid (Qac Hc.out (by rw [<- T];exact zO _ _));have j:=hid (HI U2 F.out);clear HI Hc;go_wp2_with fail;try rw [T]
  clear T;refine j.mono ?_;rintro e C ⟨b3,z,h,o,r,rfl,s3⟩;obtain⟨E,b⟩:∃U,C.alloc (.cells #[.slice z Z.l.length h,.slice o Z.n r] 29)=U:=⟨_,rfl⟩;have R:Below C.heap.size C E:=by rw [<- b];exact zO _ _
  have L:Bx2 E C.heap.size (.slice z Z.l.length h) (.slice o Z.n r):=by rw [<- b];exact Bx2.made _ _ _ _
  have k0:=L.c0;have k1:=L.c1;have I:=hid L;have V:=hid (s3.ct.below R);have D:Hid (Below k.heap.size k E):=hid (Qac (Qac F.out b3) R);have kk:(K !=K)=false:=by simp
  clear b3 R s3 L j F;rcases G.out with ⟨rfl,Hf⟩|⟨rfl,Hb,zt,hz,ht⟩
  ·have Ha:Z.l.length=0:=by rw [Hf];rfl
   rw [Ha] at k0;rw [Ha] at b ⊢;clear Hf Ha G J H I V;go_wp2_with fail;try rw [b]
   clear b;go_wp2_with fail;go_ret;exact⟨rfl,Qac Y.out D.out⟩
  ·have A:Z.Sm/\∀i,LfI (gL Z.l i):=⟨H.out,Qpe Hb⟩;have HP:=hid (QoT (c:=h) (d:=r) A hz V.out);have Hd:Hid (∀u,Below E.heap.size E u ->Calls Tryz.prog 8 #[.agg #[.slice z Z.l.length h,.slice o Z.n r]] u fun e w'=>e=.returned (.bool true)/\ Below u.heap.size u w'):=hid (fun u hu=>Qpz A Hb (V.below hu));have Hl:=hid (QoS hz).2;have HT:=hid ht;clear A Hb hz ht G J H;go_wp2_with fail;try rw [b]
   clear b;refine HP.mono ?_;rintro e v5 ⟨p5,q5,rfl,_,Hi,_,M⟩;have P:=I.below M I.lt;clear k0 k1;have k0:=P.c0;have k1:=P.c1;have He:=QhR Hi Hl.out q5;have Hn:=QhR (HS.below (Qac D.out M)) HF.out q;rw [HT.out] at He;obtain⟨t,Hh⟩:∃t,Qb2 g 0 m=t:=⟨_,rfl⟩;rw [Hh] at He Hn;have tt:(t.toList==t.toList)=true:=by simp
   have j:=hid (Hd v5 M);have Hj:=hid (Qac Y.out (Qac D.out M));clear Hh Hi M P HP Hd I V;go_wp2_with fail;refine j.mono ?_;rintro e v6 ⟨rfl,b6⟩;have Hk:=hid (Qac Hj.out b6);clear b6 j;go_wp2_with fail;go_ret;exact⟨rfl,Hk.out⟩
 ·have i1:(1048576:Int)<(n:Int):=by omega
  go_enter Tryz.func3,Tryz.ntmps3;go_wp2_with fail;go_ret;exact⟨rfl,zI⟩
end Go.Proofs.YtjdcfkmhmnblbaaGreatDoor
namespace Go.Proofs.YtjdcfkmhmnblbaaGreatDoor.fnStrict
open Go.ChangeShapes Go.WideShapes Go.ChangeAt Go.RowKit
theorem openBytesC {H:Type}{enc:TypeId×Value ->H}{W:World}{r:Reach}{b0 base:Nat}{held:Bool}{v:Value}{d:DataW H}{p:List MemPlace}
  (hval:Value.okWide Tryz.prog W r b0 22 v) (h:DataW.Trod enc Tryz.prog W base (fun _=>true) held 22 v d p):
  ∃a n c f,v=.slice a n c/\ n<=9223372036854775807/\ Seg W a n f/\ Byt f/\ n<=c:=by
 obtain⟨q,y,k,rfl⟩:=okWide_slice Tryz.underlying22 hval;obtain⟨j,g⟩:∃j:List Int,(q=none/\ y=0/\ k=0/\ j=[]) \/∃x,q=some x/\ y<=k/\ k<=maxLen/\ j.length=k/\ (∀i,i<j.length ->W.cell? (x.add i)=some (.int .u8 (j.getD i 0)))/\∀n∈j,(Lit.int .u8 n).wf=true:=by
  obtain⟨Q,A⟩:=h;rcases open_ints Tryz.underlying22 Tryz.underlying5 (by kernel_rfl) A with ⟨m,_⟩|⟨x,l,c,O,m,_,u,E,z,_,b,M⟩
  ·simp [Value.cells] at m;obtain⟨rfl,rfl,rfl⟩:=m;exact⟨[],.inl ⟨rfl,rfl,rfl,rfl⟩⟩
  ·simp [Value.cells] at m;obtain⟨rfl,rfl,rfl⟩:=m;exact⟨O,.inr ⟨_,rfl,u,E,by first|exact z|simpa using z|omega,b,M⟩⟩
 obtain⟨s,o,u⟩:=QlB g;exact⟨q,y,k,_,rfl,u,s,o,by rcases g with ⟨_,t,U,_⟩|⟨_,_,t,_⟩<;>omega⟩
theorem trod_iface {H:Type}{enc:TypeId×Value ->H}{P:Program}{t:TypeId}{ms:Array (String×TypeId)}(ht:P.underlying t=some (.interface ms)){W:World}{sp:Nat ->Bool}{fuel:Nat}{cs:List Value}{y:DataW H×List MemPlace}
  (h:DataW.trod enc P W 0 sp true fuel t cs=some y) (W':World) (sp':Nat ->Bool):DataW.trod enc P W' 0 sp' true fuel t cs=some y:=by
 cases fuel with
 | zero=>simp [DataW.trod] at h
 | succ n=>
  unfold DataW.trod at h ⊢;rw [ht] at h ⊢;match cs,h with
  | [],h=>simp at h
  | [v],h=>cases v<;>simp at h ⊢<;>exact h
  | _::_::_,h=>simp at h
theorem vars_below {H:Type}{enc:TypeId×Value ->H}{P:Program}{t:TypeId}{ms:Array (String×TypeId)}(ht:P.underlying t=some (.interface ms)){W W':World}{sp:Nat ->Bool}(hb:Below W.heap.size W W')(sp':Nat ->Bool):
  ∀(ns:List String) (gs:List (DataW H)) (q:List MemPlace),(∀n∈ns,(P.globalNamed n).bind (fun g=>(P.globals[g]?).map (·.type))=some t) ->DataW.TrodVars enc P W sp ns gs q ->DataW.TrodVars enc P W' sp' ns gs q
 | [],[],q,_,h=>h
 | [],_::_,_,_,h=>h.elim
 | _::_,[],_,_,h=>h.elim
 | n::ns,d::ds,q,hn,h=>by
  obtain⟨g,u,v,y,p,r,j,k,z,o,i,b⟩:=h;have e:u=t:=by
   have:=hn n (List.mem_cons_self);rw [j,Option.bind_some,k] at this;exact Option.some.inj this
  subst e;exact⟨g,u,v,y,p,r,j,k,Qir z hb,trod_iface ht o W' sp',vars_below ht hb sp' ns ds r (fun m hm=>hn m (List.mem_cons_of_mem _ hm)) i,b⟩
theorem vars_len {H:Type}{enc:TypeId×Value ->H}{P:Program}{W:World}{sp:Nat ->Bool}:∀{ns:List String} {gs:List (DataW H)} {q:List MemPlace},DataW.TrodVars enc P W sp ns gs q ->gs.length=ns.length
 | [],[],_,_=>rfl
 | [],_::_,_,h=>h.elim
 | _::_,[],_,h=>h.elim
 | _::_,_::_,_,h=>by
  obtain⟨_,_,_,_,_,_,_,_,_,_,j,_⟩:=h;simp [vars_len j]
theorem vars_type:∀n∈Rows.fnStrictSpec.vars,(Tryz.prog.globalNamed n).bind (fun g=>(Tryz.prog.globals[g]?).map (·.type))=some 59:=by
 have h:(Rows.fnStrictSpec.vars.all fun n=>decide ((Tryz.prog.globalNamed n).bind (fun g=>(Tryz.prog.globals[g]?).map (·.type))=some 59))=true:=by kernel_rfl
 intro n j;exact of_decide_eq_true (List.all_eq_true.1 h n j)
theorem vars_all {H:Type}{enc:TypeId×Value ->H}{W:World}{sp:Nat ->Bool}{gs:List (DataW H)}{q:List MemPlace}(h:DataW.TrodVars enc Tryz.prog W sp Rows.fnStrictSpec.vars gs q):∃g1 g2 g3 g4 g5 g6 g7 g8 g9 g10 g11 g12 g13 g14 g15,gs=[g1,g2,g3,g4,g5,g6,g7,g8,g9,g10,g11,g12,g13,g14,g15]:=by
 have j:gs.length=15:=(vars_len h).trans rfl;match gs,j with
 | [g1,g2,g3,g4,g5,g6,g7,g8,g9,g10,g11,g12,g13,g14,g15],_=>exact⟨_,_,_,_,_,_,_,_,_,_,_,_,_,_,_,rfl⟩
noncomputable def low:Nat:=(World.holding Tryz.prog default ⟨#[],#[],[]⟩).heap.size
def setAt (h:Array Obj)(g:Nat)(vs:Array Value):Array Obj:=h.modify g fun
 | .cells _ t frozen=> .cells vs t frozen
 | o=>o
noncomputable def laidWorld (os:Os):World:=
 let w0:=World.holding Tryz.prog os ⟨#[.cells #[.string {data:=#[116,104,101,32,98,121,116,101,115,32,101,110,100,32,116,111,111,32,101,97,114,108,121]}] 287,.cells #[.string {data:=#[116,104,101,32,116,101,110,116,104,32,98,121,116,101,32,105,115,32,97,98,111,118,101,32,49]}] 287,.cells #[.string {data:=#[116,104,101,32,118,97,114,105,110,116,32,99,111,117,108,100,32,98,101,32,115,104,111,114,116,101,114]}] 287,.cells #[.string {data:=#[116,104,101,32,108,101,110,103,116,104,32,105,115,32,97,98,111,118,101,32,116,104,101,32,108,105,109,105,116]}] 287,.cells #[.string {data:=#[97,32,110,117,109,98,101,114,32,105,115,32,97,98,111,118,101,32,105,116,115,32,108,105,109,105,116]}] 287,.cells #[.string {data:=#[111,117,116,32,111,102,32,111,114,100,101,114]}] 287,.cells #[.string {data:=#[97,32,114,101,112,108,105,99,97,32,104,97,115,32,110,111,32,114,117,110,115]}] 287,.cells #[.string {data:=#[98,121,116,101,115,32,115,116,97,110,100,32,98,101,104,105,110,100,32,116,104,101,32,101,110,100]}] 287,.cells #[.string {data:=#[97,32,110,97,109,101,32,104,97,115,32,110,111,32,98,121,116,101,115]}] 287,.cells #[.string {data:=#[116,104,101,114,101,32,105,115,32,110,111,32,115,117,99,104,32,107,105,110,100]}] 287,.cells #[.string {data:=#[97,32,112,97,116,104,32,104,97,115,32,116,111,111,32,109,97,110,121,32,110,97,109,101,115]}] 287,.cells #[.string {data:=#[97,32,109,97,112,32,119,105,116,104,105,110,32,116,104,101,32,116,114,101,101,32,104,97,115,32,110,111,32,107,101,121,115]}] 287,.cells #[.string {data:=#[97,32,114,101,103,105,115,116,101,114,32,111,114,32,102,108,97,103,32,104,97,115,32,110,111,32,108,101,97,118,101,115]}] 287,.cells #[.string {data:=#[97,32,100,111,116,32,105,115,32,110,111,116,32,105,110,32,116,104,101,32,99,111,110,116,101,120,116]}] 287,.cells #[.string {data:=#[97,32,100,111,116,32,99,111,109,101,115,32,116,119,105,99,101]}] 287],#[],[]⟩
 {w0 with heap:=(setAt (setAt (setAt (setAt (setAt (setAt (setAt (setAt (setAt (setAt (setAt (setAt (setAt (setAt (setAt w0.heap 10 #[.iface 270 (.pointer (some ⟨low+0,0,none⟩))]) 11 #[.iface 270 (.pointer (some ⟨low+1,0,none⟩))]) 12 #[.iface 270 (.pointer (some ⟨low+2,0,none⟩))]) 0 #[.iface 270 (.pointer (some ⟨low+3,0,none⟩))]) 4 #[.iface 270 (.pointer (some ⟨low+4,0,none⟩))]) 5 #[.iface 270 (.pointer (some ⟨low+5,0,none⟩))]) 9 #[.iface 270 (.pointer (some ⟨low+6,0,none⟩))]) 1 #[.iface 270 (.pointer (some ⟨low+7,0,none⟩))]) 7 #[.iface 270 (.pointer (some ⟨low+8,0,none⟩))]) 6 #[.iface 270 (.pointer (some ⟨low+9,0,none⟩))]) 3 #[.iface 270 (.pointer (some ⟨low+10,0,none⟩))]) 2 #[.iface 270 (.pointer (some ⟨low+11,0,none⟩))]) 8 #[.iface 270 (.pointer (some ⟨low+12,0,none⟩))]) 13 #[.iface 270 (.pointer (some ⟨low+13,0,none⟩))]) 14 #[.iface 270 (.pointer (some ⟨low+14,0,none⟩))])}
theorem laid_met (os:Os)(args:Array Value):laidMetH Tryz.prog Rows.fnStrictRow.laid ((laidWorld os).forCall (fun _ _=>0) ⟨#[],args,[]⟩).memory:=
 laidMetH_of_parts (laidMet_of_run' 8 (by kernel_rfl) (by kernel_rfl)) (by kernel_rfl)
theorem contract (H:Type)(enc:TypeId×Value ->H)(W:World)(base:Nat)(args:Array Value)(ds gs:List (DataW H))(before:List MemPlace)
  (hval0:∀(j:Nat) t v,Tryz.f3.params[j]? =some t ->args[j]? =some v ->Value.okWide Tryz.prog W .any base t v)
  (hW:DataW.Whole enc Tryz.prog Tryz.f3.params.toList Rows.fnStrictSpec.vars false W args.toList ds gs before) (hL:laidMetH Tryz.prog Rows.fnStrictRow.laid W):
  Calls Tryz.prog 3 args W fun e W'=>∃v,e=.returned v/\ Rows.fnStrictSpec.post enc Tryz.prog Tryz.f3 false true false false W args v W':=by
 have g:∀(j:Nat) t v,Tryz.f3.params[j]? =some t ->args[j]? =some v ->Value.okWide Tryz.prog W .any base t v:=hval0;have M:=hW;obtain⟨p,q,z,k,rfl,Hb,Hc⟩:=hW;have y:DataW.TrodAll enc Tryz.prog W 0 (fun _=>true) true Tryz.f3.params.toList args.toList ds p:=z;have I:∀{X:World},Below W.heap.size W X ->∀sp:Nat ->Bool,DataW.TrodVars enc Tryz.prog X sp Rows.fnStrictSpec.vars gs q:=fun hb sp=>vars_below Tryz.underlying59 hb sp _ _ _ vars_type k;obtain⟨L,R,S,T,g5,g6,g7,g8,g9,N,B,C,D,F,P,rfl⟩:=vars_all k;rw [Tryz.params3] at y g;obtain⟨i,Hd,J,K,Z,q0,Ha,rfl,rfl,u,G⟩:=trodAll_cons y;obtain⟨rfl,rfl,rfl⟩:=trodAll_nil G;obtain rfl:args=#[i]:=by cases args;simp_all
 obtain⟨A,b,r,E⟩:=QeY hL;have o:=u;have Y:∀x∈Z,x.block<W.heap.size:=by obtain⟨m,Q⟩:=o;exact DataW.trod_lt m _ _ _ Q
 obtain⟨a,n,c,f,rfl,U,s,O,V⟩:=openBytesC (g 0 22 i rfl rfl) u;clear z k hval0;refine(fnStrictWalk W a n c f A b r r U V s O E).mono fun e W' ⟨he,bel⟩=> ?_;subst he;exact⟨_,rfl,_,_,_,[],_,_,M,trodAll_mk1 (shut_bool Tryz.underlying4 _),(trodAll_cons_mk (Below.trod La.laidOut (by kernel_rfl) (of_decide_eq_true (by kernel_rfl)) o bel Y) trodAll_mk0),I bel _,bel.frame _,fun h=>by cases h⟩
theorem lifted (os:Os)(started:os.Started)(H:Type)(enc:TypeId×Value ->H)(F:Stop.Interp):
  ReturnsInHanded {} Tryz.checked os 3 .any ((OpenSpec.ofChange Rows.fnStrictSpec).preRow enc Tryz.prog Tryz.f3 Rows.fnStrictRow.domain false Rows.fnStrictRow.laid) (((OpenSpec.ofChange Rows.fnStrictSpec).at F).post enc Tryz.prog Tryz.f3 false true false false):=by
 refine returnsInHanded_of_row (C:=Tryz.checked) (s:=OpenSpec.ofChange Rows.fnStrictSpec) La.own started (by kernel_rfl) Tryz.func3
  (witness_row_at (enc:=enc) (C:=Tryz.checked) false (laidWorld os) #[.slice none 0 0] rfl (by kernel_rfl) (by kernel_rfl) (by kernel_rfl)
   (OpenSpec.preRow_of_B rfl 8 (by kernel_rfl) (by kernel_rfl) (laid_met os _))) ?_
 intro W base args j k before r q _ _ _ m _ _;exact contract H enc W base args j k before r q m
theorem said:Rows.FnStrictSaid:=
 OpenClaim.holds_of_cond 3 Tryz.f3 rfl rfl rfl rfl rfl rfl rfl ⟨rfl,rfl,rfl,rfl,rfl⟩ rfl rfl rfl rfl rfl (by kernel_rfl) Tryz.func3 (by kernel_rfl)
  (of_decide_eq_true (by kernel_rfl)) (by unfold Func.isWrapper;first|(rw [if_pos (by decide+kernel)];kernel_rfl)|(rw [if_neg (by decide+kernel)];exact⟨rfl,rfl⟩))
  (fun os started H enc _ F=>by rw [OpenClaim.pre_eq_preRow];exact lifted os started H enc F)
theorem plain (f:FuncId)(fn:Func)(hf:Tryz.pinned.checked.prog.funcNamed "loop.example/s02772/laws.FnStrict" =some f)(hfn:Tryz.pinned.checked.prog.funcs[f]? =some fn):
  false=Tryz.pinned.checked.prog.looks []/\∀(j:Nat) t,fn.params[j]? =some t ->Tryz.pinned.checked.prog.wantsStandIn t=false:=by
 obtain rfl:f=3:=Option.some.inj ((show Tryz.prog.funcNamed "loop.example/s02772/laws.FnStrict" =some 3 by kernel_rfl).symm.trans hf)|>.symm;obtain rfl:fn=Tryz.f3:=(Option.some.inj (Tryz.func3.symm.trans hfn)).symm;refine⟨by kernel_rfl,fun j t ht=> ?_⟩;rw [Tryz.params3] at ht;have k:=Array.mem_of_getElem? ht;simp at k;subst k;exact(show Tryz.prog.wantsStandIn 22=false by kernel_rfl)
end Go.Proofs.YtjdcfkmhmnblbaaGreatDoor.fnStrict
namespace Go.Proofs.YtjdcfkmhmnblbaaGreatDoor
theorem fnStrictCard:Rows.FnStrictCardSaid:=
 Claim7.holds_tied_plain_at .later [] _ _ _ _ fnStrict.said (fun _ h=>by cases h) (by kernel_rfl) (fun _ h=>by cases h) fnStrict_row_tie rfl ⟨rfl,rfl⟩ (by kernel_rfl) rfl fnStrict.plain (by kernel_rfl)
#print axioms fnStrictCard
end Go.Proofs.YtjdcfkmhmnblbaaGreatDoor
