import Derived.Test.YtgmjgboibfdaeaaGreatDoorDrg17
import Derived.Laws.OwnMore
set_option linter.unusedVariables false
set_option linter.unusedSimpArgs false
set_option maxRecDepth 100000
set_option maxHeartbeats 40000000
namespace Go.Proofs.YtgmjgboibfdaeaaGreatDoor
open Go.ChangeShapes Go.WideShapes Go.ChangeAt Go.RowKit Go.Maps
variable {B bm c i k lo n s:Nat}{J l:List Lf}{L:Int ->List (Int×Int)}{S:Sx}{a:Option Addr}{d:Dt}{e:TypeId}{ks:List Int}{ul:List Rn}{v v':Value}{v0 w w1:World}{x0:Nat×Nat}{xs:List Value}{z:List Ky}
theorem Qaz.stepS {w2 w3:World}{D:DataW Value}{G:Int ->Value}{r:Int}{l':List (Int×Int)}(h:Qaz w bm n D G L)
  (hb:Bl w w1) (hown:SR w2 (bm+1) v' l') (hne:l'≠[])
  (hgr:Gr w1 w2 (G r) v')
  (hD:w3.ownsMap Tryz.prog 3 Qcj bm (n+1) (D.put (kI r) (.held v'))) (hgr3:w2.grownBy w3 (some bm)):
  Qaz w3 bm (n+1) (D.put (kI r) (.held v')) (upd G r v') (upd L r l'):=by
 have O:=h.bw hb;have M:∀(w:World) (v:Value) (m:Nat) (xs:List Value),w.ownsRow (bm+1) 233 2 v m xs ->v.ownBlock=none \/v.ownBlock≠some bm:=by
  intro w v m xs Q;cases e:v.ownBlock with
  | none=>exact .inl rfl
  | some g=>exact .inr (fun e2=>by have:=(Q.lt g e).1;injection e2 with e2;omega)
 refine⟨hD,fun x=> ?_,fun x=> ?_,fun x=> ?_,?_⟩
 ·by_cases e:x=r
  ·subst e;rw [Qak,atKey_put_same h.own.isMap (show WideAt.IsKeyLit (kI x) from trivial)]
  ·rw [Qad G v' e,atKey_put_other (Qhy e)];exact h.at' x
 ·by_cases e:x=r
  ·subst e;rw [Qak,has_put_same h.own.isMap (show WideAt.IsKeyLit (kI x) from trivial)];cases l' with
   | nil=>exact absurd rfl hne
   | cons a b=>rfl
  ·rw [Qad L _ e,has_put_other (Qhy e)];exact h.has' x
 ·by_cases e:x=r
  ·subst e;rw [Qak,Qak];exact World.ownsRow.kept hown hgr3 (M _ _ _ _ hown)
  ·rw [Qad G v' e,Qad L _ e];have j:=O.rows x;have A:(G x).ownBlock=none \/(G x).ownBlock≠(G r).ownBlock:=by
    cases e1:(G x).ownBlock with
    | none=>exact .inl rfl
    | some g=>exact .inr (fun e2=>e (h.apart x r g e1 e2.symm))
   have s:=j.kept hgr.g A;exact s.kept hgr3 (M _ _ _ _ s)
 ·intro x y g j u;have E:∀z,z≠r ->∀g,(G z).ownBlock=some g ->v'.ownBlock=some g ->False:=by
   intro z U g p t;rcases hgr.l with i|⟨k,i,A⟩
   ·exact U (h.apart z r g p (i ▸ t))
   ·rw [i] at t;have V:=((h.rows z).lt g p).2;have Y:=hb.size;injection t with t;omega
  by_cases o:x=r
  ·subst o;rw [Qak] at j;by_cases q:y=x
   ·exact q.symm
   ·rw [Qad G v' q] at u;exact(E y q g u j).elim
  ·rw [Qad G v' o] at j;by_cases q:y=r
   ·subst q;rw [Qak] at u;exact(E x o g j u).elim
   ·rw [Qad G v' q] at u;exact h.apart x y g j u
structure RdI (L:Int ->List (Int×Int))(ds:List Dt):Prop where
 srt:∀r,Srt (L r)
 mem:∀r x,In (L r) x↔(r,x)∈ds
 last:∀r,∀q∈L r,∃d∈ds,d.1=r/\ q.2=d.2
 len:∀r,(L r).length<=ds.length
theorem RdI.nil:RdI (fun _=>[]) []:=⟨fun _=>⟨List.Pairwise.nil,fun p h=>(by cases h)⟩,fun r x=>by simp [In],fun r q h=>(by cases h),fun r=>by simp⟩
theorem Qct {α:Type}(l:List α):l=[] \/∃j q,l=j++[q]:=by
 rcases List.eq_nil_or_concat l with h|⟨j,q,h⟩
 ·exact .inl h
 ·exact .inr ⟨j,q,by rw [h];simp⟩
theorem QgB (l:List (Int×Int))(p:Int×Int):(QdP l p).length<=l.length+1/\ QdP l p≠[]:=by
 rcases Qct l with rfl|⟨l,q,rfl⟩
 ·simp [Qde]
 ·by_cases h:q.2+1<p.1
  ·rw [Qdd h];simp
  ·rw [Qer h];simp
theorem QhL {l:List (Int×Int)}{p:Int×Int}:∀q∈QdP l p,q∈l \/q.2=p.2 \/∃q'∈l,q.2=q'.2:=by
 rcases Qct l with rfl|⟨l,q,rfl⟩
 ·intro q k;rw [Qde] at k;rw [List.mem_singleton.1 k];exact .inr (.inl rfl)
 ·intro u j;by_cases h:q.2+1<p.1
  ·rw [Qdd h] at j;rcases List.mem_append.1 j with j|j
   ·exact .inl j
   ·rw [List.mem_singleton.1 j];exact .inr (.inl rfl)
  ·rw [Qer h] at j;rcases List.mem_append.1 j with j|j
   ·exact .inl (List.mem_append_left _ j)
   ·rw [List.mem_singleton.1 j];rcases Int.le_total q.2 p.2 with e|e
    ·exact .inr (.inl (by simp only;omega))
    ·exact .inr (.inr ⟨q,by simp,by simp only;omega⟩)
theorem RdI.step{ds:List Dt}(h:RdI L ds)(hd:1<=d.2/\ d.2<=1000000000)(hle:∀e∈ds,e.1=d.1 ->e.2<=d.2):RdI (upd L d.1 (QdP (L d.1) (d.2,d.2))) (ds++[d]):=by
 have t:∀q∈L d.1,q.1<=d.2:=fun q hq=>by
  obtain⟨e,g,k,j⟩:=h.last d.1 q hq;have:=hle e g k;have:=((h.srt d.1).2 q hq);omega
 have y:=QhM (p:=(d.2,d.2)) (h.srt d.1) ⟨hd.1,Int.le_refl _,hd.2⟩ t;refine⟨fun r=> ?_,fun r x=> ?_,fun r q hq=> ?_,fun r=> ?_⟩
 ·by_cases e:r=d.1
  ·rw [e,Qak];exact y.1
  ·rw [Qad L _ e];exact h.srt r
 ·by_cases e:r=d.1
  ·rw [e,Qak,y.2.1 x,h.mem,List.mem_append,List.mem_singleton];refine or_congr Iff.rfl ⟨fun hx=> ?_,fun hx=> ?_⟩
   ·simp only at hx;exact Prod.ext rfl (by simp only;omega)
   ·have:=congrArg Prod.snd hx;simp only at this ⊢;omega
  ·rw [Qad L _ e,h.mem,List.mem_append,List.mem_singleton];exact⟨.inl,fun hx=>hx.resolve_right (fun j=>e (congrArg Prod.fst j))⟩
 ·by_cases e:r=d.1
  ·rw [e,Qak] at hq;rcases QhL q hq with m|m|⟨o,m,z⟩
   ·obtain⟨u,v,k,j⟩:=h.last d.1 q m;exact⟨u,List.mem_append_left _ v,k.trans e.symm,j⟩
   ·exact⟨d,by simp,e.symm,m⟩
   ·obtain⟨u,v,k,j⟩:=h.last d.1 o m;exact⟨u,List.mem_append_left _ v,k.trans e.symm,z.trans j⟩
  ·rw [Qad L _ e] at hq;obtain⟨u,v,k,j⟩:=h.last r q hq;exact⟨u,List.mem_append_left _ v,k,j⟩
 ·rw [List.length_append];by_cases e:r=d.1
  ·rw [e,Qak];have:=(QgB (L d.1) (d.2,d.2)).1;have:=h.len d.1;simp;omega
  ·rw [Qad L _ e];have:=h.len r;omega
open Go.Sort Go.Lib Go.Shelf
theorem Qgx {ts:List Dt}(hs:SortedIn (ltOf Qb6) 0 ts.length ts.toArray):ts.Pairwise (fun x y=>0<=Qb6 y x):=by
 rw [List.pairwise_iff_getElem];intro i j hi m u;have k:=hs i j (by omega) u m;have q:ts.toArray[i]! =ts[i]:=by rw [getElem!_pos _ _ (by simpa using hi)];simp
 have r:ts.toArray[j]! =ts[j]:=by rw [getElem!_pos _ _ (by simpa using m)];simp
 rw [q,r] at k;simpa [ltOf] using k
theorem Qjq {x y:Dt}(h:0<=Qb6 y x)(e:x.1=y.1):x.2<=y.2:=by
 unfold Qb6 orI QaU at h;rw [e] at h;simp only [Int.lt_irrefl,if_false,if_true] at h;by_cases j:y.2<x.2
 ·rw [if_pos j] at h;exact absurd h (by decide)
 ·omega
def Gvn (S:List Dt ->Prop)(ts:List Dt):Prop:=∃ss,S ss/\ ts.Perm ss
def Qc2 {α:Type}(F:Fence)(n:Nat)(P:Program)(g:Nat)(lb:Array Value)(enc:α ->Value)(S:List α ->Prop)(N:Nat)(w:World):Prop:=
 ∀(l:Nat) (J:List α ->World ->Prop) (W:World),Bl w W ->AbidesFrom W.heap.size J ->(∀pre W1,J pre W1 ->Bl w W1) ->
  (∀pre x W1,J pre W1 ->pre.length<N ->YieldAt F (n - 1) P l #[enc x] W1 fun e W'=>e=.returned (.bool true)/\ J (pre++[x]) W'/\ KeepsWalks W1 W') ->
  J [] W ->
  CallsIn F n P g (#[.func (.yield l) #[] #[]]++lb) W fun e W'=>(∃v,e=.returned v)/\∃xs,S xs/\ J xs W'
namespace Ds
variable {B bm c i k lo n s:Nat}{J l:List Lf}{L:Int ->List (Int×Int)}{S:Sx}{a:Option Addr}{d:Dt}{e:TypeId}{ks:List Int}{ul:List Rn}{v v':Value}{v0 w w1:World}{x0:Nat×Nat}{xs:List Value}{z:List Ky}
theorem Qhr (n:Nat)(hn:2<=n)(g:Nat)(lb:Array Value)(eg:∀args w,(callFunc g args).run Tryz.prog w=.ok (.enter g args) w)
  (S:List Dt ->Prop) (N:Nat) (hN:N<=maxLen) (hNb:N*16<=140737488355328) (w:World) (hseq:Qc2 Fence.wide (n - 1) Tryz.prog g lb dtV S N w):
  CallsIn Fence.wide n Tryz.prog 186 #[.slice none 0 0,.func (.func g) #[] lb] w fun e w'=>∃(v:Value) (y:List Dt),e=.returned v/\ S y/\ w'.ownsRow w.heap.size 104 2 v y.length (kRow y)/\ (v=.slice none 0 0↔y=[])/\ Bl w w':=by
 have R:193≠104:=by decide
 refine callsIn_of_wp_marks Tryz.func186 rfl trivial ?_ rfl;simp only [Tryz.ntmps186,List.size_toArray,List.length_cons,List.length_nil,Nat.reduceAdd,Nat.reduceSub,Array.replicate_succ,Array.replicate_zero,List.push_toArray,List.append_toArray,List.nil_append,List.cons_append];gi_wp2
 refine wpIn_rangeFunc ?_;intro r F;obtain⟨j,o⟩:=zE (w.alloc (.cells #[.slice none 0 0] 193));have H:j.heap.size=w.heap.size+1:=by rw [<- o];simp
 have J:j.heap[w.heap.size]? =some (.cells #[.slice none 0 0] 193 (0,0)):=by rw [<- o];exact World.alloc_heap_new w _
 have i:Bl w j:=by rw [<- o];exact(RowKit.Below.refl _ w).alloc zL _
 rw [o];obtain⟨m,z⟩:=zE ((j.alloc (.deferred (some []))).alloc (.loop (QaR r (.func (.func g) #[] lb) w.heap.size j.heap.size .ready)));have G:∀k,k<j.heap.size ->m.heap[k]? =j.heap[k]? :=fun k hk=>by
  rw [<- z];exact(Below.heap_alloc _ _ k (by simp;omega)).trans (Below.heap_alloc _ _ k hk)
 have b:Bl w m:=by rw [<- z];exact(i.alloc i.size _).alloc (by have:=i.size;simp;omega) _
 have V:QfF w r (.func (.func g) #[] lb) w.heap.size (j.heap.size+1) j.heap.size [] m:=
  ⟨⟨_,(G w.heap.size (by omega)).trans J,⟨rfl,.inl ⟨rfl,rfl⟩⟩,by simp⟩,
   by rw [<- z];have:=World.alloc_heap_new (j.alloc (.deferred (some []))) (.loop (QaR r (.func (.func g) #[] lb) w.heap.size j.heap.size .ready));rwa [World.size_alloc] at this,
   by rw [<- z];exact(Below.heap_alloc _ _ _ (by simp)).trans (World.alloc_heap_new j _),b⟩
 refine⟨j.heap.size+1,[{target:=.collected j.heap.size,args:=#[]}],m,{target:=.fn (.func g) lb,args:=#[.func (.yield (j.heap.size+1)) #[] #[]]},m,g,
  #[.func (.yield (j.heap.size+1)) #[] #[]]++lb,m,?_,?_,?_,?_,fun _=>by omega,?_⟩
 ·rw [<- z];exact run_enterLoop_outer _ _ _ _ _
 ·simp [resolve,go_sem]
 ·intro f' C;trivial
 ·simp [invoke,go_sem,eg]
 ·refine(hseq (j.heap.size+1) (QfF w r (.func (.func g) #[] lb) w.heap.size (j.heap.size+1) j.heap.size) m b (Qbx _ _ _ _ _ _ _ b.size) (fun _ _ h=>h.bw)
   (fun pre x W hJ hl=>Qdc (n - 1 - 1) w r _ w.heap.size (j.heap.size+1) j.heap.size (by omega) (by omega) (by omega) zL (by omega) N hN hNb pre x W hJ hl) V).mono ?_
  rintro e A ⟨⟨v0,rfl⟩,y,Y,u⟩;obtain⟨v,I,p,Z⟩:=u.box;have O:=run_endLoop (P:=Tryz.prog) u.L (by simp [QaR]);obtain⟨q,t⟩:∃q,A.putObj (j.heap.size+1) (.loop {QaR r (.func (.func g) #[] lb) w.heap.size j.heap.size .ready with state:=.exhausted})=q:=⟨_,rfl⟩;rw [t] at O;have Q:A.grownBy q (some (j.heap.size+1)):=by rw [<- t];exact grownBy_putObj_a _ _ _
  have X:q.heap[w.heap.size]? =some (.cells #[v] 193 (0,0)):=by rw [<- t];exact(World.putObj_heap_other (by omega)).trans I
  have E:q.heap[j.heap.size]? =some (.deferred (some [])):=by rw [<- t];exact(World.putObj_heap_other (by omega)).trans u.K
  have U:=p.kept Q (ownsRow_ne_a p u.L (fun cur e=>by cases e));have M:Bl w q:=u.bw.grown Q u.bw.size (fun k e=>by cases e;omega);obtain⟨B,D⟩:=cell_of_box_a X;have s:=hid U;clear t p U;refine⟨none,q,O,?_⟩;gi_wp2
  rw [<- H];refine⟨by simp,.inl ⟨_,_,rfl,run_takeDeferred E,?_⟩⟩;exact⟨_,results_tmp rfl _ _ _,v,y,rfl,Y,s.kept (grownBy_putObj_a _ _ _) (ownsRow_ne_a s E (fun cur e=>by cases e)),Z,M.grown (grownBy_putObj_a _ _ _) M.size (fun k e=>by cases e;omega)⟩
theorem collectB (g:Nat)(lb:Array Value)(eg:∀args w,(callFunc g args).run Tryz.prog w=.ok (.enter g args) w)
  (S:List Dt ->Prop) (N:Nat) (hN:N<=maxLen) (hNb:N*16<=140737488355328) (w:World) (hseq:Qc2 Fence.wide 4 Tryz.prog g lb dtV S N w):
  Cl 169 #[.func (.func g) #[] lb] w fun e w'=>∃(v:Value) (j:List Dt),e=.returned v/\ S j/\ w'.ownsRow w.heap.size 104 2 v j.length (kRow j)/\ (v=.slice none 0 0↔j=[])/\ Bl w w':=by
 have m:=hid ((callsIn_wide (n:=5)).1 (Qhr 5 (by omega) g lb eg S N hN hNb w hseq));go_enter Tryz.func169,Tryz.ntmps169;go_wp2_with fail;refine m.mono ?_;rintro e w' ⟨v,j,rfl,q,y,u,r⟩;have k:=hid (And.intro q (And.intro y (And.intro u r)));clear q y u r m;go_wp2_with fail;go_ret;exact⟨v,j,rfl,k.1,k.2.1,k.2.2.1,k.2.2.2⟩
end Ds
theorem Qgw (g:Nat)(lb:Array Value)(eg:∀args w,(callFunc g args).run Tryz.prog w=.ok (.enter g args) w)(N:Nat)(S:List Dt ->Prop)(w:World)(hN:N<=1048576)(hSN:∀j,S j ->j.length<=N)(hseq:Qc2 Fence.wide 4 Tryz.prog g lb dtV S N w):
  Cl 149 #[.func (.func g) #[] lb,.func (.func 151) #[] #[]] w fun e w'=>∃(v:Value) (m:List Dt),e=.returned v/\ Gvn S m/\ m.Pairwise (fun x y=>0<=Qb6 y x)/\ m.length<=1048576/\ w'.ownsRow w.heap.size 104 2 v m.length (Ds.kRow m)/\ Bl w w':=by
 have t:=hid (Ds.collectB g lb eg _ N (by unfold maxLen;omega) (by omega) w hseq);go_enter Tryz.func149,Tryz.ntmps149;go_wp2_with fail;refine t.mono ?_;rintro e w1 ⟨v,j,rfl,r,u,I,h⟩;have C:=hSN j r;rcases u.2 with ⟨rfl,K⟩|⟨G,Z,X,rfl,H,B,r1,r2,D,F⟩
 ·have J:j=[]:=List.eq_nil_of_length_eq_zero K;subst J;have z:=hid h;have o:=hid r;have U:=hid u;have b:=AnyF.slices_SortFunc_none Tryz.sortD none 0 (.func (.func 151) #[] #[]) w1;change Cl 171 _ _ _ at b;have q:=hid b;clear h r u t b;go_wp2_with fail;refine q.mono ?_;rintro e L ⟨rfl,rfl⟩;clear q;go_wp2_with fail;go_ret;exact⟨_,[],rfl,⟨[],o,List.Perm.refl _⟩,List.Pairwise.nil,by simp,U,z⟩
 ·have q:=hid (Ds.sortFuncK w.heap.size G Z j w1 u (by omega));have z:=hid h;have o:=hid r;have O:Hid (j.length<=1048576):=hid (by omega);have Y:=hid H;clear h r u t I;go_wp2_with fail;refine q.mono ?_;rintro e L ⟨rfl,m,A,E,s,p⟩;have Q:=hid s;have M:=hid (z.grown p z.size (fun k e=>by injection e with e;have:=Y.out;omega));have i:=hid A;have V:=hid E;clear s p A E q;go_wp2_with fail;go_ret;refine⟨_,m,rfl,⟨j,o,i⟩,Qgx V,by rw [i.length_eq];exact O,?_,M⟩;rw [i.length_eq];exact Q
def gD (ds:List Dt)(i:Nat):Dt:=ds.getD i (0,0)
def Qjl (w:World)(a:Option Addr)(ds:List Dt):Prop:=
 ds.length=0 \/∃g,a=some ⟨g,0,none⟩/\ g<w.heap.size/\∀i,i<ds.length ->w.cell? ⟨g,i*2,none⟩=some (.int .i64 (gD ds i).1)/\ w.cell? ⟨g,i*2+1,none⟩=some (.int .i64 (gD ds i).2)
theorem Qjl.bw{ds:List Dt}(h:Qjl w a ds)(hb:Bl w w1):Qjl w1 a ds:=by
 rcases h with h|⟨g,e,j,k⟩
 ·exact .inl h
 ·exact .inr ⟨g,e,Nat.lt_of_lt_of_le j hb.size,fun i hi=>⟨(hb.cell (p:=⟨g,_,none⟩) j).trans (k i hi).1,(hb.cell (p:=⟨g,_,none⟩) j).trans (k i hi).2⟩⟩
theorem Qm4 {ds:List Dt}(h:ds[i]? =some d):gD ds i=d:=by simp [gD,List.getD,h]
theorem Qm5 {ds:List Dt}(h:i<ds.length):gD ds i∈ds:=by simp [gD,List.getD,h]
theorem Qii {ds:List Dt}(h:k<ds.length):ds.take (k+1)=ds.take k++[gD ds k]:=by
 rw [List.take_add_one];simp [gD,List.getD,h]
theorem Qca{ts:List Dt}(h:w.ownsRow B 104 2 v ts.length (Ds.kRow ts)):∃a c,v=.slice a ts.length c/\ Qjl w a ts/\ ts.length<=c/\ c<=9223372036854775807:=by
 obtain⟨a,c,e,u,y,z⟩:=Qlu h;refine⟨a,c,e,?_,u,y⟩;by_cases r:ts.length=0
 ·exact .inl r
 ·obtain⟨g,q,_,o,t⟩:=z (by omega);exact .inr ⟨g,q,o,fun i hi=>by
   obtain⟨d,j,k,m⟩:=t i hi;rw [Qm4 j];exact⟨k,m⟩⟩
theorem QlL{B' s' n':Nat}{e':TypeId}{xs':List Value}(h:w.ownsRow B e s v n xs)(h':w.ownsRow B' e' s' v' n' xs')(hne:e≠e'):v.ownBlock=none \/v.ownBlock≠v'.ownBlock:=by
 rcases h.2 with ⟨rfl,_⟩|⟨g,q,u,rfl,_,m,_⟩
 ·exact .inl rfl
 ·refine .inr fun e1=> ?_;rcases h'.2 with ⟨rfl,_⟩|⟨k,r,y,rfl,_,j,_⟩
  ·cases e1
  ·have:g=k:=by simpa [Value.ownBlock] using e1
   rw [<- this,m] at j;injection j with j;injection j with _ j;exact hne j
theorem Qjf (n l Bs g cap:Nat)(ds:List Dt)(J:List Dt ->World ->Prop)(hn:1<=n)(W0:World)(hlen:ds.length<=1048576)
  (hY:∀pre x W,J pre W ->pre.length<ds.length ->YieldAt Fence.wide (n - 1) Tryz.prog l #[dtV x] W fun e W'=>e=.returned (.bool true)/\ J (pre++[x]) W'/\ KeepsWalks W W')
  (hJB:∀pre W1,J pre W1 ->Bl W0 W1) (W:World) (hJ:AbidesFrom W.heap.size J) (hB0:Bs<W0.heap.size) (hm:W0.cell? ⟨Bs,0,none⟩=some (.slice (some ⟨g,0,none⟩) ds.length cap)) (hg:g<W0.heap.size)
  (hc:∀i,i<ds.length ->W0.cell? ⟨g,i*2,none⟩=some (.int .i64 (gD ds i).1)/\ W0.cell? ⟨g,i*2+1,none⟩=some (.int .i64 (gD ds i).2)) (h0:J [] W):
  CallsIn Fence.wide n Tryz.prog 172 #[.func (.yield l) #[] #[],.pointer (some ⟨Bs,0,none⟩)] W fun e W'=>(∃v,e=.returned v)/\∃ss,ss=ds/\ J ss W':=by
 have F:W.cell? ⟨Bs,0,none⟩=some (.slice (some ⟨g,0,none⟩) ds.length cap):=((hJB [] W h0).cell (p:=⟨Bs,0,none⟩) hB0).trans hm;have Q:=hid hJ;have Y:=hid hY;have U:=hid hJB;have b:=hid hc;clear hJ hY hJB hc hm;refine callsIn_of_wp Tryz.func172 rfl trivial ?_ rfl;simp only [Tryz.ntmps172,List.size_toArray,List.length_cons,List.length_nil,Nat.reduceAdd,Nat.reduceSub,Array.replicate_succ,Array.replicate_zero,List.push_toArray,List.append_toArray,List.nil_append,List.cons_append];gi_wp2
 gi_loopw [7] (fun i wr=>∃k:Nat,k<=ds.length/\ i=.int .i64 k/\ J (ds.take k) wr/\ W.heap.size<=wr.heap.size)
  (fun i _=>ds.length - (intOf i).toNat)
 case atStart=>exact⟨0,Nat.zero_le _,rfl,h0,Nat.le_refl _⟩
 case round=>
  obtain⟨k,D,rfl,j,P⟩:=hrel;by_cases o:k<ds.length
  ·obtain⟨z,y,t⟩:∃r q,gD ds k=(r,q):=⟨_,_,rfl⟩;have h:=U _ _ j;have M:=(h.cell (p:=⟨g,k*2,none⟩) hg).trans (b k o).1;have O:=(h.cell (p:=⟨g,k*2+1,none⟩) hg).trans (b k o).2;rw [t] at M O;dsimp only at M O;obtain⟨u,m⟩:=zE (wr.alloc (.cells #[.int .i64 z,.int .i64 y] 104));have A:J (ds.take k) u:=by rw [<- m];exact Q _ wr _ none j (World.grownBy_alloc wr _ none) (fun r e=>by cases e)
   obtain⟨C,T,L,N,I,E⟩:=Y (ds.take k) (z,y) u A (by rw [List.length_take];omega);have s:Bx2 u wr.heap.size (.int .i64 z) (.int .i64 y):=by rw [<- m];exact Bx2.made _ _ _ _
   obtain⟨X,B⟩:=s.q2;have V:Hid (ds.take (k+1)=ds.take k++[(z,y)]):=hid (by rw [Qii o,t]);have Z:Hid (W.heap.size<=u.heap.size):=hid (by rw [<- m];simp;omega);have R:(0:Int)<=(k:Int):=Int.natCast_nonneg _;have S:(k:Int)<(ds.length:Int):=by omega
   clear s t h A;dsimp only [dtV,QgF] at I E ⊢;gi_wp2
   try rw [m]
   refine E.mono ?_;rintro e K ⟨rfl,G,H⟩;gi_wp2
   go_roundw;case rel=>exact⟨k+1,by omega,by go_num,by rw [V.out];exact G,by have:=Z.out;have:=H.size;omega⟩
   case measure=>simp [intOf];omega
  ·obtain rfl:k=ds.length:=by omega
   gi_wp2
   go_end0;exact⟨⟨_,rfl⟩,ds,rfl,by rw [List.take_length] at j;exact j⟩
theorem Qjg (n l Bs cap:Nat)(a:Option Addr)(J:List Dt ->World ->Prop)(W:World)(hm:W.cell? ⟨Bs,0,none⟩=some (.slice a 0 cap))(h0:J [] W):
  CallsIn Fence.wide n Tryz.prog 172 #[.func (.yield l) #[] #[],.pointer (some ⟨Bs,0,none⟩)] W fun e W'=>(∃v,e=.returned v)/\∃ss:List Dt,ss=[]/\ J ss W':=by
 refine callsIn_of_wp Tryz.func172 rfl trivial ?_ rfl;simp only [Tryz.ntmps172,List.size_toArray,List.length_cons,List.length_nil,Nat.reduceAdd,Nat.reduceSub,Array.replicate_succ,Array.replicate_zero,List.push_toArray,List.append_toArray,List.nil_append,List.cons_append];gi_wp2
 gi_loopw [7] (fun i wr=>i=.int .i64 0/\ J [] wr) (fun _ _=>0)
 case atStart=>exact⟨rfl,h0⟩
 case round=>
  obtain⟨rfl,j⟩:=hrel;gi_wp2
  go_end0;exact⟨⟨_,rfl⟩,[],rfl,j⟩
theorem QfC (Bs cap:Nat)(a:Option Addr)(ds:List Dt)(w:World)(hlen:ds.length<=1048576)(hB:Bs<w.heap.size)(hm:w.cell? ⟨Bs,0,none⟩=some (.slice a ds.length cap))(hs:Qjl w a ds):
  Qc2 Fence.wide 4 Tryz.prog 172 #[.pointer (some ⟨Bs,0,none⟩)] dtV (fun ss=>ss=ds) ds.length w:=fun l J W hW hJ hJB hY h0=>by
 rcases hs with h|⟨g,rfl,k,j⟩
 ·have e:ds=[]:=List.eq_nil_of_length_eq_zero h;subst e;exact Qjg 4 l Bs cap a J W ((hW.cell (p:=⟨Bs,0,none⟩) hB).trans hm) h0
 ·exact Qjf 4 l Bs g cap ds J (by omega) w hlen hY hJB W hJ hB hm k j h0
theorem Qje (a:Option Addr)(n c:Nat)(w:World):Cl 150 #[.slice a n c] w fun e w'=>e=.returned (.func (.func 172) #[] #[.pointer (some ⟨w.heap.size,0,none⟩)])/\ w'=w.alloc (.cells #[.slice a n c] 193):=by
 go_enter Tryz.func150,Tryz.ntmps150;go_wp2_with fail;go_ret;exact⟨rfl,rfl⟩
def DR (w:World)(B:Nat)(v:Value)(ts:List Dt):Prop:=w.ownsRow B 104 2 v ts.length (Ds.kRow ts)
theorem QjD (a b:List Dt):Ds.kRow (a++b)=Ds.kRow a++Ds.kRow b:=by simp [Ds.kRow]
theorem DR.bw{ts:List Dt}(h:DR w B v ts)(hb:Bl w w1):DR w1 B v ts:=QbS h hb
theorem DR.nil (w:World)(B:Nat):DR w B (.slice none 0 0) []:=World.ownsRow_nil _ _ _ _
theorem DR.weak{C:Nat}{ts:List Dt}(h:DR w B v ts)(hc:C<=B):DR w C v ts:=by
 refine⟨h.1,?_⟩;rcases h.2 with e|⟨g,j,k,e,m,r⟩
 ·exact .inl e
 ·exact .inr ⟨g,j,k,e,Nat.le_trans hc m,r⟩
theorem Qdt (B B':Nat)(v x:Value)(ts ss:List Dt)(w:World)(ty:TypeId)(h:DR w B v ts)(h':DR w B' x ss)(hB:B<=w.heap.size)(hl:ts.length+ss.length<=1000000000):
  ∃v' w',(Builtin.append_ #[193,193] ty #[v,x]).run Tryz.prog w=.ok v' w'/\ DR w' B v' (ts++ss)/\ Gr w w' v v':=by
 obtain⟨m,hi,t,o,i⟩:=info_parts Ds.infoDt;rcases h'.2 with ⟨rfl,r⟩|⟨g,q,A,rfl,U,V,E,M,O,Q⟩
 ·have:ss=[]:=List.eq_nil_of_length_eq_zero r;subst this;exact⟨v,w,run_append_owned_none w B _ ty 104 m 2 Tryz.underlying193 hi v ts.length _ h,by simpa using h,Gr.refl _ _⟩
 ·obtain⟨v',w',z,b,p,Y,s⟩:=run_append_own_at (P:=Tryz.prog) w B 193 ty 104 m (.agg #[.int .i64 0,.int .i64 0]) 2 16 Tryz.underlying193 hi t o i rfl (by decide) v ts.length _ h ⟨g,0,none⟩ ss.length q (Ds.kRow ss) (by rw [Ds.kRow_len])
   (fun j u hj=>by
    have y:j<ss.length*2:=by
     have:=(List.getElem?_eq_some_iff.1 hj).1;rw [Ds.kRow_len] at this;exact this
    have:=World.ownsRow.cellAt h' j y;rw [hj] at this;by_cases e:j=0
    ·subst e;simpa [Addr.add] using this
    ·simpa [Addr.add,e] using this)
   (fun u hu=>by
    unfold Ds.kRow at hu;obtain⟨d,_,k⟩:=List.mem_flatMap.1 hu;simp [Ds.kCells] at k;rcases k with rfl|rfl<;>rfl) (by unfold maxLen;omega) (by omega) hB
  refine⟨v',w',z,?_,Gr.app p s⟩;unfold DR;rw [List.length_append,QjD];exact b
theorem QmW {o:Option Nat}(h:o=none \/o≠some k):o≠some k:=by
 rcases h with h|h
 ·rw [h];simp
 ·exact h
theorem Qgt {α β:Type}{t:TypeId}{kv:α ->Value}{vo:Option β ->Value}{b r cnt:Nat}{f:α ->Option β}{ds:List α}(h:w.ownsRow B e s v n xs)(hr:Rng w t kv vo (some b) r c f ds cnt):(v.ownBlock=none \/v.ownBlock≠some r)/\ (v.ownBlock=none \/v.ownBlock≠some b):=by
 obtain⟨D,A,⟨o,y,O,M,q,k,F,p,i,m,E⟩,_⟩:=hr;rcases h.2 with ⟨rfl,_⟩|⟨g,u,z,rfl,_,j,_⟩
 ·exact⟨.inl rfl,.inl rfl⟩
 ·refine⟨.inr fun e=> ?_,.inr fun e=> ?_⟩
  ·have:g=r:=by simpa [Value.ownBlock] using e
   rw [this,m] at j;cases j
  ·have:g=b:=by simpa [Value.ownBlock] using e
   rw [this,k] at j;cases j
def DtW (J:List Lf)(z:List Ky)(d:Dt):Prop:=∃x∈J,z <+:Way x/\ (x.r,x.q)=d
def DtM (J:List Lf)(z:List Ky)(d:Dt):Prop:=∃x∈J,Way x=z/\ (x.r,x.q)=d
theorem Qif{ks:List Ky}(hk:∀x∈J,∀y,z++[y] <+:Way x ->y∈ks):DtW J z d↔DtM J z d \/∃y∈ks,DtW J (z++[y]) d:=by
 constructor
 ·rintro⟨x,j,⟨s,k⟩,e⟩;cases s with
  | nil=>exact .inl ⟨x,j,by rw [<- k];simp,e⟩
  | cons y s=>
   have m:z++[y] <+:Way x:=by rw [<- k,show z++y::s=(z++[y])++s by simp];exact List.prefix_append _ _
   exact .inr ⟨y,hk x j y m,x,j,m,e⟩
 ·rintro(⟨x,j,h,e⟩|⟨y,_,x,j,h,e⟩)
  ·exact⟨x,j,by rw [h];exact List.prefix_refl _,e⟩
  ·exact⟨x,j,List.IsPrefix.trans (List.prefix_append _ _) h,e⟩
theorem QjO:Mk J J.length z d≠none↔DtM J z d:=by
 rw [Qdp];constructor
 ·rintro⟨j,q,k,m⟩;exact⟨gL J j,Qai.2 ⟨j,q,rfl⟩,k,m⟩
 ·rintro⟨x,r,k,m⟩;obtain⟨j,q,e⟩:=Qai.1 r;exact⟨j,q,by rw [e];exact k,by rw [e];exact m⟩
theorem QjF(hd:Dis J J.length){ss:List Dt}(h:QbF (Mk J J.length z) ss):ss.length=mW J z:=by
 have j:=Qei hd z;have:=((List.perm_ext_iff_of_nodup h.1 j.1).2 (fun x=>(h.2 x).trans (j.2 x).symm)).length_eq;rw [this,List.length_map];rfl
theorem QgG{N:List Ky ->Option (Nat×Nat)}(H:TJ v0 B J N c)(hc:c<=100000)(hJ:J.length<=1000)(z:List Ky)(x:Nat×Nat)(hx:N z=some x)
  (hIH:∀y K,N (z++[y])=some K ->∀w,Bl v0 w ->Cl 148 #[.agg #[.map (some K.1),.map (some K.2)]] w fun e w'=>(∃v j,e=.returned v/\ DR w' w.heap.size v j/\ (∀d,d∈j↔DtW J (z++[y]) d)/\ j.length=cW J (z++[y]))/\ Bl w w')
  (w:World) (hw:Bl v0 w):
  Cl 148 #[.agg #[.map (some x.1),.map (some x.2)]] w fun e w'=>(∃v j,e=.returned v/\ DR w' w.heap.size v j/\ (∀d,d∈j↔DtW J z d)/\ j.length=cW J z)/\ Bl w w':=by
 have HT:=hid (H.bw hw);have HV:=hid hw;have HX:=hid hx;have HI:=hid hIH;have Ge:=hid H.dis;obtain⟨W,C⟩:=zE (w.alloc (.cells #[.map (some x.1),.map (some x.2)] 156));have b0:Bl w W:=by rw [<- C];exact zO _ _
 have X0:Bx2 W w.heap.size (.map (some x.1)) (.map (some x.2)):=by rw [<- C];exact Bx2.made _ _ _ _
 have H4:=hid X0;have U:=hid b0;have K:=X0.c1;have H0:=hid (And.intro hc hJ);have Gm:=hid H.there;have HG:Hid (∀w1,Bl w w1 ->∀Bm,Bm<w1.heap.size ->w1.cell? ⟨Bm,0,none⟩=some (.map (some x.2)) ->∃n,n<=1048576/\ SeqGives Fence.wide 4 Tryz.prog 187 #[.pointer (some ⟨Bm,0,none⟩)] dtV (QbF (Mk J J.length z)) n w1):=hid (fun w1 o Bm hBm hm=>by
  obtain⟨D,hF⟩:=(HT.tre.bw o).marks z x HX;exact⟨Maps.size D,Nat.le_trans hF.own.size_le (by have:=H0.1;omega),Ds.keysGivesK Bm x.2 c _ D w1 hBm hm hF⟩)
 clear H hc hx hIH hw b0 X0 hJ;go_enter Tryz.func148,Tryz.ntmps148;go_wp2_with fail;try rw [C]
 clear C;refine(Ds.keysFnK (some x.2) W).mono ?_;rintro e w1 ⟨rfl,S⟩;have o:Bl W w1:=by rw [S];exact zO _ _
 have V:w1.cell? ⟨W.heap.size,0,none⟩=some (.map (some x.2)):=by rw [S];simp
 have z1:W.heap.size<w1.heap.size:=by rw [S];simp
 have Hj:=hid (U.trans (o.mono U.size));have H3:=hid o;obtain⟨n,hn,Hi⟩:=HG w1 Hj W.heap.size z1 V;have HS:=hid (Ds.collectK _ _ (enters_of Tryz.func187 (by kernel_rfl) rfl) _ n (by unfold maxLen;omega) (by omega) w1 Hi);clear Hi S o V z1 K HG;go_wp2_with fail;refine HS.mono ?_;rintro e m ⟨Gy,Hv,rfl,hK,He,_,b2⟩;obtain⟨A,M,E,Y⟩:=QaK He;subst Y;have H9:=hid (Hj.trans (b2.mono Hj.size));have Hq:=hid (Qaa H3 b2);have Gk:Hid (DR m W.heap.size (.slice A M E) Hv):=hid (DR.weak He H3.size);have HK:=hid hK;have Gf:Hid (Qa3 m 208 Qa5 QaQ x.1 c (fun y=>N (z++[y]))):=hid ((HT.tre.bw H9).kids z x HX);have x0:=(H4.bw Hq H4.lt).c0;have Go:Hid (W.heap.size<=m.heap.size):=hid Hq.size;clear hK He b2 HS;go_wp2_with (at_range;refine QaB _ rfl _ 153 rfl 208 156 Qas Tryz.underlying153 Qa5 QaQ (some x.1) c (fun y=>N (z++[y])) rfl Gf ?_;intro w0 Gs Hd O Gw);have Hr:Bl m w0:=⟨O.os,O.tape,O.output,O.size,fun k r=>O.block k r (by simp)⟩;have Hz:Hid (Bl W w0):=hid (Qaa Hq Hr);have H1:Hid (DR w0 W.heap.size (.slice A M E) Hv):=hid (Gk.bw Hr);clear O Gw x0 Hr;try go_frame
 go_loopw [3] (fun t wr=>∃(q:List Ky) (Hs:Nat) (j:List Dt),Rng wr 208 Qa5 QaQ (some x.1) m.heap.size c (fun y=>N (z++[y])) q Hs/\ Hid (DR wr W.heap.size t j)/\ Hid (∀d,d∈j↔DtM J z d \/∃y∈q,DtW J (z++[y]) d)/\ Hid (j.length=mW J z+(q.map fun y=>cW J (z++[y])).sum)/\ Hid (Bl W wr)/\ Hid (m.heap.size<=wr.heap.size)) (fun t wr=>wr.rangeLeft x.1 m.heap.size);case atStart=>exact⟨[],_,Hv,Hd,H1,hid (fun d=>by rw [HK.2 d,QjO];simp),hid (by rw [QjF Ge.out HK.out];simp),Hz,hid (by have:=Hd.lt;omega)⟩
 case round=>
  clear Hd Hz H1;obtain⟨q,Hs,j,R,X,HM,HL,Hm,Gr⟩:=hrel;have Hb:=hid R;obtain⟨A,M,E,Y⟩:=QaK X;subst Y;go_wp2_with (at_next;refine QaG _ rfl _ rfl 208 Qas Qa5 (fun _ _=>QaZ) (fun key kl r=>Qb0 r) QaQ (some x.1) m.heap.size c (fun y=>N (z++[y])) q Hs rfl R ?_ ?_)
  ·intro r;have Hc:∀u∈J,∀y,z++[y] <+:Way u ->y∈q:=fun u hu y hp=>(r.2 y).2 (fun hn=>by
    have:=(Gm z y).2 ⟨u,hu,hp⟩;rw [show N (z++[y])=none from hn] at this;cases this)
   have HE:Hid ((∀d,d∈j↔DtW J z d)/\ j.length=cW J z):=hid ⟨fun d=>by rw [HM d,Qif Hc],by rw [HL.out,QhQ z q r.1 J Hc]⟩;have Gl:Hid (DR wr w.heap.size (.slice A M E) j):=hid (X.weak U.size);clear r R Hc;go_wp2_with fail;go_ret;exact⟨⟨_,j,rfl,Gl,HE.1,HE.2⟩,Qaa U Hm⟩
  ·intro xs Q Hw Hx G Hf H7 Gu kl Gt Hh Hg F Gx H6;have Gg:=hid (fun w1 (o:Bl v0 w1)=>HI.out (xs,Q) (Hw,Hx) H7 w1 o);have Gj:Hid (∀w9,Rng w9 208 Qa5 QaQ (some x.1) m.heap.size c (fun y=>N (z++[y])) (q++[(xs,Q)]) Hf ->w9.rangeLeft x.1 m.heap.size<wr.rangeLeft x.1 m.heap.size):=hid (fun w9 h9=>by
    rw [h9.left_eq,Hb.left_eq];exact Hg)
   have Hy:Hid (Bl W G):=hid (Hm.grown F Hm.size (fun k e=>by cases e;exact Go));have Hn:=hid Hh;have Gb:Hid (DR G W.heap.size (.slice A M E) j):=hid (World.ownsRow.kept X F (Qgt X Hb).1);obtain⟨I,T⟩:=zE (G.alloc (.cells #[.map (some Hw),.map (some Hx)] 156));have p:Bl G I:=by rw [<- T];exact zO _ _
   have K6:Bx2 I G.heap.size (.map (some Hw)) (.map (some Hx)):=by rw [<- T];exact Bx2.made _ _ _ _
   have Hk:=hid (Hy.trans (p.mono Hy.size));have Gn:Hid (Bl v0 I):=hid (HV.trans ((Qaa U Hk).mono HV.size));have Ho:=hid (Hn.same (fun b e=>p.block b (Hn.mlt b e)) (p.block _ Hn.lt));have Gc:=hid (Gb.bw p);have Gp:Hid (m.heap.size<=I.heap.size):=hid (by have:=Gr.out;have:=F.size;have:=p.size;omega);obtain⟨c0,V⟩:=K6.q2;clear H7 Gu Gt R Hh Hg F Gx p K6;dsimp only [Qa5,QaQ] at H6 ⊢;go_wp2_with fail;try rw [T]
   refine(Gg _ Gn).mono ?_;rintro e w7 ⟨⟨v7,Z,rfl,H5,H8,Hu⟩,s⟩;have Hl:=hid (Hk.trans (s.mono Hk.size));have Hp:=hid (Ho.same (fun b e=>s.block b (Ho.mlt b e)) (s.block _ Ho.lt));have L:=hid (Gc.bw s);have Ha:j.length+Z.length<=1000000000:=by
    have h1:=QiX J z q;have h2:=Hb.len;have h3:=H0.out;have h4:q.length*J.length<=100000*1000:=Nat.mul_le_mul (by omega) (by omega);have h5:=QmR J z;have h6:=Qjo J (z++[(xs,Q)]);rw [HL.out,Hu];omega
   obtain⟨v8,w8,Gv,Ht,P⟩:=Qdt W.heap.size I.heap.size (.slice A M E) v7 j Z w7 193 L H5 Hl.size Ha;have H2:Hid (Rng w8 208 Qa5 QaQ (some x.1) m.heap.size c (fun y=>N (z++[y])) (q++[(xs,Q)]) Hf):=hid (Hp.kept P.g (fun b e=>by cases e;exact QmW (Qgt L Hp).2) (QmW (Qgt L Hp).1));have Ga:Hid (Bl W w8):=hid (Hl.grown P.g Hl.size (fun k r=>(World.ownsRow.lt L k r).1));have Gi:Hid (∀d,d∈j++Z↔DtM J z d \/∃y∈q++[(xs,Q)],DtW J (z++[y]) d):=hid (fun d=>by
    rw [List.mem_append,HM.out d,H8 d];constructor
    ·rintro((h|⟨y,i,h⟩)|h)
     ·exact .inl h
     ·exact .inr ⟨y,List.mem_append_left _ i,h⟩
     ·exact .inr ⟨_,by simp,h⟩
    ·rintro(h|⟨y,i,h⟩)
     ·exact .inl (.inl h)
     ·rcases List.mem_append.1 i with i|i
      ·exact .inl (.inr ⟨y,i,h⟩)
      ·rw [List.mem_singleton.1 i] at h;exact .inr h)
   have Gh:Hid ((j++Z).length=mW J z+((q++[(xs,Q)]).map fun y=>cW J (z++[y])).sum):=hid (by
    rw [List.length_append,HL.out,Hu];simp;omega)
   have Gd:=hid Ht;have Gq:Hid (m.heap.size<=w8.heap.size):=hid (by have:=Gp.out;have:=s.size;have:=P.g.size;omega);obtain⟨ga,gn,gc,Y⟩:=QaK Ht;subst Y;clear s c0 V H6 T H5 H8 Hu Ht P Ha;go_wp2_with (at_builtin;refine Qab rfl _ _ _ _ rfl Gv rfl rfl rfl ?_);go_roundw;case rel=>exact⟨_,_,j++Z,H2,Gd,Gi,Gh,Ga,Gq⟩
   case measure=>exact Gj w8 H2
theorem Qm1 {v0:World}{B c:Nat}{J:List Lf}{N:List Ky ->Option (Nat×Nat)}(H:TJ v0 B J N c)(hc:c<=100000)(hJ:J.length<=1000)(h8:∀x∈J,(Way x).length<=8):
  ∀d z x,z.length+d=8 ->N z=some x ->∀w,Bl v0 w ->Cl 148 #[.agg #[.map (some x.1),.map (some x.2)]] w fun e w'=>(∃v ts,e=.returned v/\ DR w' w.heap.size v ts/\ (∀d,d∈ts↔DtW J z d)/\ ts.length=cW J z)/\ Bl w w'
 | 0,z,x,hz,hx,w,hw=>QgG H hc hJ z x hx (fun y x1 h1=>absurd (H.deep h8 (z++[y]) (by rw [h1];simp)) (by simp;omega)) w hw
 | d+1,z,x,hz,hx,w,hw=>QgG H hc hJ z x hx (fun y x1 h1=>Qm1 H hc hJ h8 d (z++[y]) x1 (by simp;omega) h1) w hw
theorem Qj0 (w:World):Cl 148 #[.agg #[.map none,.map none]] w (Rt w (.slice none 0 0)):=by
 obtain⟨W,q⟩:=zE (w.alloc (.cells #[.map none,.map none] 156));have b:Bl w W:=by rw [<- q];exact zO _ _
 have u:Bx2 W w.heap.size (.map none) (.map none):=by rw [<- q];exact Bx2.made _ _ _ _
 have i:=hid u;have Z:=hid b;have D:=u.c1;clear b u;go_enter Tryz.func148,Tryz.ntmps148;go_wp2_with fail;try rw [q]
 clear q;refine(Ds.keysFnK none W).mono ?_;rintro e w1 ⟨rfl,r⟩;have s:Bl W w1:=by rw [r];exact zO _ _
 have v:w1.cell? ⟨W.heap.size,0,none⟩=some (.map none):=by rw [r];simp
 have Y:W.heap.size<w1.heap.size:=by rw [r];simp
 have I:=hid s;have V:SeqGives Fence.wide 4 Tryz.prog 187 #[.pointer (some ⟨W.heap.size,0,none⟩)] dtV (QbF (fun _:Dt=>(none:Option ByteArray))) 0 w1:=fun l J W' hW' hJ hY h0=>Ds.keysNilK 4 l W.heap.size J W' hJ ((hW'.cell (p:=⟨W.heap.size,0,none⟩) Y).trans v) h0;have g:=hid (Ds.collectK _ _ (enters_of Tryz.func187 (by kernel_rfl) rfl) _ 0 (by unfold maxLen;omega) (by omega) w1 V);clear V r s v Y D;go_wp2_with fail;refine g.mono ?_;rintro e z ⟨B,X,rfl,M,L,O,A⟩;have E:X=[]:=List.eq_nil_iff_forall_not_mem.2 (fun d hd=>(M.2 d).1 hd rfl);have K:B=.slice none 0 0:=O.2 E;subst K;have o:=hid (Qaa I A);have x0:=(i.bw o i.lt).c0;have H:Hid (MO z 208 Qa5 QaQ none 0 (fun _:Ky=>(none:Option (Nat×Nat)))):=hid (fun x=>rfl);clear M L O E A g;go_wp2_with (at_range;refine QaB _ rfl _ 153 rfl 208 156 Qas Tryz.underlying153 Qa5 QaQ none 0 (fun _:Ky=>(none:Option (Nat×Nat))) rfl H ?_;intro C F U j N);have h:Hid (Bl W C):=hid (Qaa o ⟨j.os,j.tape,j.output,j.size,fun k m=>j.block k m (by simp)⟩);clear j N x0;try go_frame
 go_loopw [3] (fun t wr=>t=.slice none 0 0/\ (∃y,Rng wr 208 Qa5 QaQ none z.heap.size 0 (fun _:Ky=>(none:Option (Nat×Nat))) [] y)/\ Hid (Bl W wr)) (fun t wr=>0);case atStart=>exact⟨rfl,⟨_,U⟩,h⟩
 case round=>
  clear U h;obtain⟨rfl,⟨y,Q⟩,G⟩:=hrel;go_wp2_with (at_next;refine QaG _ rfl _ rfl 208 Qas Qa5 (fun _ _=>QaZ) (fun key kl m=>Qb0 m) QaQ none z.heap.size 0 (fun _:Ky=>(none:Option (Nat×Nat))) [] y rfl Q ?_ ?_);intro m;clear m Q;go_wp2_with fail;go_ret;exact⟨rfl,Qaa Z G⟩
def gI (ks:List Int)(i:Nat):Int:=ks.getD i 0
def QhD (w:World)(g:Nat)(ks:List Int):Prop:=g<w.heap.size/\∀i,i<ks.length ->w.cell? ⟨g,i,none⟩=some (.int .i64 (gI ks i))
theorem QhD.bw{g:Nat}(h:QhD w g ks)(hb:Bl w w1):QhD w1 g ks:=
 ⟨Nat.lt_of_lt_of_le h.1 hb.size,fun i hi=>(hb.cell (p:=⟨g,_,none⟩) h.1).trans (h.2 i hi)⟩
theorem Qm6(h:i<ks.length):gI ks i∈ks:=by simp [gI,List.getD,h]
theorem Qll(h:k<ks.length):ks.take (k+1)=ks.take k++[gI ks k]:=by
 rw [List.take_add_one];simp [gI,List.getD,h]
theorem OpA.tj(h:OpA w x0 bm S)(hd:Dis S.l S.l.length):∃N B,TJ w B S.l N (9*S.l.length)/\ N []=some x0:=by
 obtain⟨n,D,G,N,B,g,t,q,r,u⟩:=h;refine⟨N,B,⟨q,fun z y=> ?_,hd⟩,r⟩;rw [u];constructor
 ·rintro(e|⟨j,k,m⟩)
  ·simp at e
  ·exact⟨gL S.l j,Qai.2 ⟨j,k,rfl⟩,m⟩
 ·rintro⟨x,v,m⟩;obtain⟨j,k,e⟩:=Qai.1 v;exact .inr ⟨j,k,by rw [e];exact m⟩
theorem Qlg{N:List Ky ->Option (Nat×Nat)}(H:TJ v0 B J N c)(hr:N []=some x0)(hc:c<=100000)(hJ:J.length<=1000)(h8:∀x∈J,(Way x).length<=8)(z:List Ky)(w:World)(hw:Bl v0 w):
  Cl 148 #[.agg #[.map (mF (N z)),.map (mS (N z))]] w fun e w'=>(∃v ts,e=.returned v/\ DR w' w.heap.size v ts/\ (∀d,d∈ts↔DtW J z d)/\ ts.length=cW J z)/\ Bl w w':=by
 cases hz:N z with
 | some x=>
  have h:=H.deep h8 z (by rw [hz];simp);exact Qm1 H hc hJ h8 (8 - z.length) z x (by omega) hz w hw
 | none=>
  refine(Qj0 w).mono ?_;rintro e w' ⟨rfl,b⟩;have j:∀x∈J,¬z <+:Way x:=fun x hx hp=>by
   rcases Qct z with e|⟨k,y,e⟩
   ·rw [e,hr] at hz;cases hz
   ·have:=(H.there k y).2 ⟨x,hx,by rw [<- e];exact hp⟩;rw [<- e,hz] at this;cases this
  refine⟨⟨_,[],rfl,DR.nil _ _,fun d=>⟨fun h=>(by cases h),fun⟨x,hx,hp,_⟩=>absurd hp (j x hx)⟩,?_⟩,b⟩;unfold cW;rw [List.filter_eq_nil_iff.2 (fun x hx=>by rw [Qaf (j x hx)];simp)];rfl
theorem Qib{N:List Ky ->Option (Nat×Nat)}(H:TJ v0 B J N c)(hr:N []=some x0)(hc:c<=100000)(hJ:J.length<=1000)(h8:∀x∈J,(Way x).length<=8)
  (p:List ByteArray) (a:Option Addr) (cp:Nat) (bm g kc:Nat) (ks:List Int) (hp:p.length<=1048576) (hs:∀i,(gS p i).size<=1048576) (y:∀k∈ks,(Lit.int .i64 k).wf=true) (hkl:ks.length<=3) (w:World) (hw:Bl v0 w) (hseg:Qaw w a p) (hks:QhD w g ks):
  Cl 125 #[.agg #[.map (some x0.1),.map (some x0.2),.map (some bm)],.slice a p.length cp,.slice (some ⟨g,0,none⟩) ks.length kc] w fun e w'=>(∃v j,e=.returned v/\ DR w' w.heap.size v j/\ (∀d,d∈j↔∃k∈ks,DtW J (Qac p k) d)/\ j.length=(ks.map fun k=>cW J (Qac p k)).sum)/\ Bl w w':=by
 obtain⟨W,E⟩:=zE (w.alloc (.cells #[.map (some x0.1),.map (some x0.2),.map (some bm)] 160));have b0:Bl w W:=by rw [<- E];exact zO _ _
 have X0:Bx3 W w.heap.size (.map (some x0.1)) (.map (some x0.2)) (.map (some bm)):=by rw [<- E];exact Bx3.made _ _ _ _ _
 have Hc:=hid X0;have V:=hid b0;have HT:=hid H;have HV:=hid hw;have Ha:=hid hr;have Hq:=hid hseg;have Hk:=hid hks;have Hl:=hid y;have Hs:=hid hs;have o:=hid (And.intro hc (And.intro hJ h8));clear b0 X0 H hw hr hseg hks y hs hc hJ h8;go_enter Tryz.func125,Tryz.ntmps125;go_wp2_with fail;try rw [E]
 clear E;go_loopw [7,12] (fun t i wr=>∃(k:Nat) (j:List Dt),k<=ks.length/\ i=.int .i64 k/\ Hid (DR wr W.heap.size t j)/\ Hid (∀d,d∈j↔∃q∈ks.take k,DtW J (Qac p q) d)/\ Hid (j.length=((ks.take k).map fun k=>cW J (Qac p k)).sum)/\ Hid (j.length<=k*1000)/\ Hid (Bl W wr)) (fun t i _=>ks.length - (intOf i).toNat);case atStart=>exact⟨0,[],Nat.zero_le _,rfl,hid (DR.nil _ _),hid (fun d=>by simp),hid (by simp),hid (by simp),hid zI⟩
 case round=>
  obtain⟨k,j,y,rfl,Y,HM,S,T,u⟩:=hrel;obtain⟨fa,fn,fc,L⟩:=QaK Y;subst L;by_cases O:k<ks.length
  ·have i1:(0:Int)<=(k:Int):=Int.natCast_nonneg _;have i2:(k:Int)<(ks.length:Int):=by omega
   have s:=Qaa V u;have q0:=((Hk.bw s).2 k O);have D:=Hl _ (Qm6 O);obtain⟨r,C⟩:=zE (gI ks k);rw [C] at q0 D;have Hb:Hid (ks.take (k+1)=ks.take k++[r]):=hid (by rw [Qll O,C]);have X:=Hc.bw u Hc.lt;obtain⟨Hu,Hv,Hw⟩:=X.q3;have Q:=HV.trans (s.mono HV.size);have G:=atC p a cp r B c N _ wr hp Hs D (Hq.bw s) (HT.tre.bw Q);rw [Ha.out] at G;have U:=hid G;have P:=hid (fun w1 (b:Bl wr w1)=>Qlg HT Ha o.1 o.2.1 o.2.2 (Qac p r) w1 (Q.trans (b.mono Q.size)));obtain⟨m0,Hf⟩:=zE (mF (N (Qac p r)));obtain⟨m1,Hg⟩:=zE (mS (N (Qac p r)));rw [Hf,Hg] at U P;clear C D X Q G s Hf Hg;dsimp only [mF,mS,Option.map] at U;go_wp2_with fail;refine U.mono ?_;rintro e w1 ⟨rfl,b⟩;have F:=hid b;clear b q0 Hu Hv Hw;go_wp2_with fail;refine(P w1 F).mono ?_;rintro e w2 ⟨⟨v2,z,rfl,Hd,Hh,M⟩,b2⟩;have Z:=Qaa F b2;have K:=Y.bw Z;have A:=u.trans (Z.mono u.size);have Hr:cW J (Qac p r)<=1000:=Nat.le_trans (Qjo _ _) o.2.1;obtain⟨v3,w3,Ht,I,He⟩:=Qdt W.heap.size w1.heap.size (.slice fa fn fc) v2 j z w2 193 K Hd A.size (by have:=T.out;rw [M];omega);have Hi:Hid (Bl W w3):=hid (A.grown He.g A.size (fun k y=>(World.ownsRow.lt K k y).1));have Hj:=hid I;have Ho:Hid (∀d,d∈j++z↔∃q∈ks.take (k+1),DtW J (Qac p q) d):=hid (fun d=>by
    rw [Hb.out,List.mem_append,HM.out d,Hh d];constructor
    ·rintro(⟨q,m,h⟩|h)
     ·exact⟨q,List.mem_append_left _ m,h⟩
     ·exact⟨r,by simp,h⟩
    ·rintro⟨q,m,h⟩;rcases List.mem_append.1 m with m|m
     ·exact .inl ⟨q,m,h⟩
     ·rw [List.mem_singleton.1 m] at h;exact .inr h)
   have Hm:Hid ((j++z).length=((ks.take (k+1)).map fun k=>cW J (Qac p k)).sum):=hid (by rw [Hb.out,List.length_append,S.out,M];simp);have Hn:Hid ((j++z).length<=(k+1)*1000):=hid (by rw [List.length_append,M];have:=T.out;omega);obtain⟨ga,gn,gc,L⟩:=QaK I;subst L;clear b2 Z K A Hd Hh M I He Hr;go_wp2_with (at_builtin;refine Qab rfl _ _ _ _ rfl Ht rfl rfl rfl ?_);go_roundw;case rel=>exact⟨k+1,j++z,O,by go_num,Hj,Ho,Hm,Hn,Hi⟩
   case measure=>simp [intOf];omega
  ·obtain rfl:k=ks.length:=by omega
   have R:Hid ((∀d,d∈j↔∃k∈ks,DtW J (Qac p k) d)/\ j.length=(ks.map fun k=>cW J (Qac p k)).sum):=hid ⟨fun d=>by have:=HM d;rw [List.take_length] at this;exact this,by have:=S.out;rw [List.take_length] at this;exact this⟩;have Hp:Hid (DR wr w.heap.size (.slice fa fn fc) j):=hid (Y.weak V.size);go_wp2_with fail;go_ret;exact⟨⟨_,j,rfl,Hp,R.1,R.2⟩,Qaa V u⟩
theorem LB.low{lo':Nat}(h:LB w lo v l)(hl:lo'<=lo):LB w lo' v l:=by
 obtain⟨P,Q,j,k⟩:=h;exact⟨P,Q,j.low hl,k⟩
theorem LB.set(h:LB w lo v l)(q:Addr)(u:Value)(hq:q.block<lo):LB (w.setCell q u) lo v l:=
 h.move (by simp [World.setCell]) (fun b h1 h2=>zH _ _ _ _ (by omega))
theorem FR.setLow{l:List Rn}(h:FR w B v l)(q:Addr)(u:Value)(hq:q.block<B):FR (w.setCell q u) B v l:=
 h.setFar q u (fun e=>by have:=(World.ownsRow.lt h _ e).1;omega)
theorem SOw.of{x:Option Addr}{d:Nat}(h:LB w lo (.slice a S.l.length c) S.l)(hf:FR w lo (.slice x S.n d) ul)(hn:S.n=ul.length)(hR:S.R=fun i=>(gR ul i).1)(hF:S.F=fun i=>(gR ul i).2.1)(hT:S.T=fun i=>(gR ul i).2.2)(hlo:lo<=w.heap.size):SOw w lo w.heap.size a x d S:=by
 obtain⟨P,Q,k,t⟩:=h;have u:Qa7 w x S.n S.R S.F S.T:=by
  obtain⟨A,c',e,s,_,_⟩:=hf.fs;injection e with e1 e2 e3;subst e1;rw [hn,hR,hF,hT];exact s.rseg
 have v:S.n=0 \/∃g ys,x=some ⟨g,0,none⟩/\ g<w.heap.size/\ w.ownsRow lo 124 3 (.slice (some ⟨g,0,none⟩) S.n d) S.n ys:=by
  have q:w.ownsRow lo 124 3 (.slice x S.n d) S.n (Qaq ul):=by have:=hf;unfold FR at this;rw [hn];rw [hn] at this;exact this
  rcases q.2 with ⟨e,m⟩|⟨g,y,z,e,r⟩
  ·exact .inl m
  ·injection e with e1 e2 e3;subst e1;exact .inr ⟨g,_,rfl,(World.ownsRow.lt q g rfl).2,q⟩
 rcases k.row.2 with ⟨e,m⟩|⟨g,y,z,e,r⟩
 ·exact⟨.inl m,u,.inl m,v,hlo,Nat.le_refl _⟩
 ·injection e with e1 e2 e3;subst e1;refine⟨k.lseg rfl,u,.inr ⟨g,fun i=>some ⟨P i,0,none⟩,Q,P,rfl,⟨(k.lt g rfl).1,(k.lt g rfl).2,fun i hi _=> ?_,fun i j hi hj _ _ hne=>t i j hi hj hne⟩,fun k0=>⟨Btw.refl _ _ _,fun _ _ _=>rfl,⟨_,QbR k.row⟩,fun i hi=>(k.cell rfl hi).1,fun i _ hi _=>(k.pt i hi).2.2.2.1.pmk,fun i hi=>by omega,fun i hi=>by omega⟩⟩,v,hlo,Nat.le_refl _⟩;obtain⟨o,b,p,_⟩:=k.pt i hi;exact⟨rfl,fun e=>p (by rw [e];rfl),o,b⟩
theorem SOw.emp (w:World)(a x:Option Addr)(d lo:Nat)(hlo:lo<=w.heap.size):SOw w lo w.heap.size a x d Sx.mt:=SOw.mt w Sx.mt rfl rfl lo _ ⟨hlo,Nat.le_refl _⟩ a x d
theorem QiV {z0:Nat×Nat}{bd:Nat}{R F T:Nat ->Int}{m:Nat}(w:World)(h:LvJ w z0 bd J ul)(hlv:QbT R F T m J J.length)(hbd:LvB J):
  Cl 111 #[.agg #[.map (some z0.1),.map (some z0.2),.map (some bd)]] w fun e w'=>(∃a c x d,e=.returned (.agg #[.slice a J.length c,.slice x ul.length d])/\ LB w' (w.heap.size+2) (.slice a J.length c) J/\ FR w' (w.heap.size+2) (.slice x ul.length d) ul/\ w.heap.size+2<=w'.heap.size)/\ Bl w w':=by
 obtain⟨W,y⟩:=zE ((w.alloc (.cells #[.map (some z0.1),.map (some z0.2),.map (some bd)] 160)).alloc (.cells #[.slice none 0 0,.slice none 0 0] 40));have Q:Bl w W:=by rw [<- y];exact Qae _ _ _
 have X:Bx3 W w.heap.size (.map (some z0.1)) (.map (some z0.2)) (.map (some bd)):=by rw [<- y];exact(Bx3.made _ _ _ _ _).bw (zO _ _) (Bx3.made _ _ _ _ _).lt
 have I:Bx2 W (w.heap.size+1) (.slice none 0 0) (.slice none 0 0):=by rw [<- y];simpa using Bx2.made (w.alloc (.cells #[.map (some z0.1),.map (some z0.2),.map (some bd)] 160)) (.slice none 0 0) (.slice none 0 0) 40
 have zW:W.heap.size=w.heap.size+2:=by rw [<- y];simp
 obtain⟨N,B,c,n,D,G,L,j,V,C,P,S,h6⟩:=h.bw Q;have Ha:=j.tj hbd.dis;have Y:Hid (∀w1,Bl W w1 ->Cl 143 #[.agg #[.map (some z0.1),.map (some z0.2)],.slice none 0 0,.slice none 0 0] w1 fun e w'=>(∃a c,e=.returned (.slice a J.length c)/\ LB w' W.heap.size (.slice a J.length c) J)/\ Bl w1 w'):=hid (fun w1 q=>by
  have:=Qc3 J W B c N (by simpa using j.tre) (Ha.nki (by rw [j.root];simp)) V hlv hbd 8 [] rfl (by omega) (.slice none 0 0) [] (.slice none 0 0) w1 q (LB.nil w1 _) (.inl ⟨rfl,rfl⟩) (fun g hg=>by cases hg) (by rw [QkI hlv];have:=hbd.len;simp;omega);rw [show Qac [] 3=([]:List Ky) from rfl,j.root] at this;refine this.mono ?_;rintro e w' ⟨v,rfl,z,g⟩;rw [QkI hlv,List.nil_append] at z;obtain⟨a,c,rfl⟩:=z.form;exact⟨⟨a,c,rfl,z⟩,g.bw zL (fun k hk=>by cases hk)⟩)
 have Z:Hid (∀w1,Bl W w1 ->Cl 144 #[.map (some bd)] w1 fun e w'=>(∃x d,e=.returned (.agg #[.slice x ul.length d])/\ FR w' W.heap.size (.slice x ul.length d) ul)/\ Bl w1 w'):=hid (fun w1 q=>by
  have:=QhV (C.bw q) S h6;rw [P] at this;refine this.mono ?_;rintro e w' ⟨v,rfl,t,b⟩;obtain⟨a,c,rfl,_⟩:=t.fs;exact⟨⟨a,c,rfl,t.weak q.size⟩,b⟩)
 have i:=hid X;have H:=hid I;have Hb:=hid Q;have M:=hid zW;have o:Hid (∀w',Bl W w' ->(w'.cell? ⟨w.heap.size,0,none⟩=some (.map (some z0.1))/\ w'.cell? ⟨w.heap.size,1,none⟩=some (.map (some z0.2))/\ w'.cell? ⟨w.heap.size,2,none⟩=some (.map (some bd)))):=hid (fun w' b=>by
  have A:=i.bw b i.lt;exact⟨A.c0,A.c1,A.c2⟩)
 clear Q X I zW h j V C P S h6 Ha hlv hbd;go_enter Tryz.func111,Tryz.ntmps111;go_wp2_with fail;try rw [y]
 clear y;refine zS o (fun qh=> ?_);refine tZ 0 3 ?_;refine tZ 1 4 ?_;refine tZ 3 6 ?_;refine tZ 4 7 ?_;refine cZ 2 ?_;intro K r;go_simp;refine(Y _ zI.drew).mono ?_;rintro e w1 ⟨⟨a,c,rfl,z⟩,q⟩;have p:Bl W w1:=⟨q.os,q.tape,q.output,q.size,q.block⟩;have Hh:=hid z;clear z;refine r.out _ _ (o _ p) (fun qh=> ?_);clear r K;try simp only [zP]
 refine cZ 5 ?_;intro K r;go_simp;refine(Z _ p).mono ?_;rintro e s ⟨⟨x,d,rfl,t⟩,U⟩;have u:=Qaa p U;have He:=hid t;have Hf:=hid (Hh.bw U);have O:=H.bw u H.lt;clear t;refine r.out _ _ (o _ u) (fun qh=> ?_);clear r K;try simp only [zP]
 refine tZ 6 9 ?_;obtain⟨t0,t1,tf⟩:=O.p2;have Hi:=hid (O.set (.slice a J.length c) (.slice x ul.length d));have E:=hid (((i.bw u i.lt).far (Qan s ⟨w.heap.size+1,0,none⟩ (.slice a J.length c)) (by show w.heap.size≠w.heap.size+1;omega)).far (Qan _ ⟨w.heap.size+1,1,none⟩ (.slice x ul.length d)) (by show w.heap.size≠w.heap.size+1;omega));have Hc:=hid (Qaa Hb u);have Hj:Hid (w.heap.size+2<=s.heap.size):=hid (by have j:=M.out;have V:=u.size;omega);have Hg:Hid (LB ((s.setCell ⟨w.heap.size+1,0,none⟩ (.slice a J.length c)).setCell ⟨w.heap.size+1,1,none⟩ (.slice x ul.length d)) (w.heap.size+2) (.slice a J.length c) J):=hid (by
  have j:=Hf.out;rw [M.out] at j;exact(j.set _ _ (by show w.heap.size+1<w.heap.size+2;omega)).set _ _ (by show w.heap.size+1<w.heap.size+2;omega))
 have Hd:Hid (FR ((s.setCell ⟨w.heap.size+1,0,none⟩ (.slice a J.length c)).setCell ⟨w.heap.size+1,1,none⟩ (.slice x ul.length d)) (w.heap.size+2) (.slice x ul.length d) ul):=hid (by
  have j:=He.out;rw [M.out] at j;exact(j.setLow _ _ (by show w.heap.size+1<w.heap.size+2;omega)).setLow _ _ (by show w.heap.size+1<w.heap.size+2;omega))
 refine cZ 7 ?_;intro K r;go_simp;refine r.out _ _ ⟨E.c0,E.c1,E.c2⟩ (fun qh=> ?_);clear r K;try simp only [zP]
 refine zD ?_;clear qh q p U u O t0 t1 tf o Y Z;go_wp2_with fail;obtain⟨s0,s1⟩:=Hi.q2;refine zF (v:=.agg #[.slice a J.length c,.slice x ul.length d]) (by simp [results,Tryz.results111,go_sem,s0,s1]) ⟨⟨a,c,x,d,rfl,Hg,Hd,by simp [World.setCell];have:=Hj.out;omega⟩,?_⟩;exact(Hc.setCell (by simp) _).setCell (by simp) _
theorem QlH (a x:Option Addr)(c d:Nat)(S:Sx)(w:World)(hm:S.Sm)(hi:∀i,LfI (gL S.l i))(h:SAt w a x S):
  Cl 106 #[.agg #[.slice a S.l.length c,.slice x S.n d]] w fun e w'=>(∃u0 u1 u2,e=.returned (.tuple #[.agg #[.map u0,.map u1,.map u2],.bool (stB S)])/\ (stB S=true ->∃x0 j,u0=some (Prod.fst x0)/\ u1=some (Prod.snd x0)/\ u2=some j/\ OpA w' x0 j S))/\ Bl w w':=by
 cases hb:stB S with
 | true=>
  refine(Qej a c S.l x S.n d S.R S.F S.T w hm.l1 hm.p1 hi hm.n1 h.lf h.rn (Qcx hb)).mono ?_;rintro e w' ⟨⟨x0,j,D,G,N,B,rfl,k,_,_,_,m,q,r⟩,b⟩;exact⟨⟨_,_,_,rfl,fun _=>⟨x0,j,rfl,rfl,rfl,S.n,D,G,N,B,(Qcx hb).w.1.2,k,m,q,r⟩⟩,b⟩
 | false=>
  refine(Qd9 a c S.l x S.n d S.R S.F S.T w hm.l1 hm.p1 hi hm.n1 h.lf h.rn (QnP hb)).mono ?_;rintro e w' ⟨rfl,b⟩;exact⟨⟨_,_,_,rfl,fun h=>by cases h⟩,b⟩
theorem Qiq (a x a' x':Option Addr)(c d c' d':Nat)(S S':Sx)(w:World)(hm:S.Sm)(hm':S'.Sm)(hi:∀i,LfI (gL S.l i))(hi':∀i,LfI (gL S'.l i))(h:SAt w a x S)(h':SAt w a' x' S'):
  Cl 82 #[.agg #[.slice a S.l.length c,.slice x S.n d],.agg #[.slice a' S'.l.length c',.slice x' S'.n d']] w fun e w'=>∃q p u r,e=.returned (.tuple #[.agg #[.slice q (jnZ S S').l.length p,.slice u (jnZ S S').n r],.bool (jnB S S')])/\ SOw w' w.heap.size w'.heap.size q u r (jnZ S S')/\ Bl w w':=by
 obtain⟨W,t⟩:=zE (((w.alloc (.cells #[.slice a S.l.length c,.slice x S.n d] 40)).alloc (.cells #[.slice a' S'.l.length c',.slice x' S'.n d'] 40)).alloc (.cells #[.slice none 0 0,.slice none 0 0] 40));have N:Bl w W:=by rw [<- t];exact(Qae _ _ _).alloc (by simp;omega) _
 have A0:Bx2 W w.heap.size (.slice a S.l.length c) (.slice x S.n d):=by rw [<- t];exact((Bx2.made w _ _ _).allocs _).allocs _
 have B0:Bx2 W (w.heap.size+1) (.slice a' S'.l.length c') (.slice x' S'.n d'):=by
  rw [<- t];have:=Bx2.made (w.alloc (.cells #[.slice a S.l.length c,.slice x S.n d] 40)) (.slice a' S'.l.length c') (.slice x' S'.n d') 40;exact(by simpa using this:Bx2 _ (w.heap.size+1) _ _).allocs _
 have R0:Bx2 W (w.heap.size+1+1) (.slice none 0 0) (.slice none 0 0):=by
  rw [<- t];simpa using Bx2.made ((w.alloc (.cells #[.slice a S.l.length c,.slice x S.n d] 40)).alloc (.cells #[.slice a' S'.l.length c',.slice x' S'.n d'] 40)) (.slice none 0 0) (.slice none 0 0) 40
 have zW:W.heap.size=w.heap.size+3:=by rw [<- t];simp
 have Hg:=hid (QlH a x c d S W hm hi (h.bw N));have Ha:=hid (fun w1 (X:Bl W w1)=>QlH a' x' c' d' S' w1 hm' hi' ((h'.bw N).bw X));have I:=hid B0;have Ht:=hid R0;have G:=hid N;have H6:=hid zW;obtain⟨k0,k1⟩:=A0.q2;obtain⟨V,hV⟩:=zE (stB S);obtain⟨V',Hk⟩:=zE (stB S');have Hh:=hid hV;have Hb:=hid Hk;rw [hV] at Hg;rw [Hk] at Ha;clear N A0 B0 R0 zW h h' hV Hk hi hi';go_enter Tryz.func82,Tryz.ntmps82;go_wp2_with fail;try rw [t]
 clear t;refine Hg.mono ?_;rintro e w1 ⟨⟨u0,u1,u2,rfl,Z⟩,X⟩;have Hr:=hid Z;obtain⟨w2,C⟩:=zE (w1.alloc (.cells #[.map u0,.map u1,.map u2] 160));have b2:Bl w1 w2:=by rw [<- C];exact zO _ _
 have Hx:Hid (Bx3 w2 w1.heap.size (.map u0) (.map u1) (.map u2)):=hid (by rw [<- C];exact Bx3.made _ _ _ _ _);have Q:=hid (Qaa X b2);have Hd:=hid b2;have H4:=hid (G.trans (Q.mono G.size));have l0:=(I.bw Q I.lt).c0;have l1:=(I.bw Q I.lt).c1;clear X b2 Z k0 k1 Hg;go_wp2_with fail;try rw [C]
 clear C;refine(Ha w2 Q).mono ?_;rintro e w3 ⟨⟨v0,v1,v2,rfl,Z⟩,b3⟩;have Hs:=hid Z;obtain⟨w4,D⟩:=zE (w3.alloc (.cells #[.map v0,.map v1,.map v2] 160));have b4:Bl w3 w4:=by rw [<- D];exact zO _ _
 have H1:Hid (Bx3 w4 w3.heap.size (.map v0) (.map v1) (.map v2)):=hid (by rw [<- D];exact Bx3.made _ _ _ _ _);have He:=hid b4;have R:=hid (Qaa b3 b4);have Hw:=hid (Qaa Q R);have E:=hid (G.trans (Hw.mono G.size));have k:=hid (Ht.bw Hw Ht.lt);clear b3 b4 Z l0 l1 Ha;cases V with
 | false=>
  have j:Hid (jnB S S'=false/\ jnZ S S'=Sx.mt):=hid (by
   have e:jnB S S'=false:=by unfold jnB;rw [Hh.out];rfl
   exact⟨e,Qgd e⟩)
  obtain⟨r0,r1⟩:=k.q2;have f0:=k.f 0;have f1:=k.f 1;have z:=hid (k.set (.slice none 0 0) (.slice none 0 0));go_wp2_with fail;obtain⟨s,A⟩:=z.q2;refine zF (v:=.tuple #[.agg #[.slice none 0 0,.slice none 0 0],.bool false]) (by simp [results,Tryz.results82,go_sem,s,A]) ⟨none,0,none,0,by rw [j.1,j.2];rfl,?_,?_⟩
  ·rw [j.2];exact SOw.emp _ _ _ _ _ (by simp [World.setCell];exact E.size)
  ·exact(E.setCell (by simp;omega) _).setCell (by simp;omega) _
 | true=>
  cases V' with
  | false=>
   have j:Hid (jnB S S'=false/\ jnZ S S'=Sx.mt):=hid (by
    have e:jnB S S'=false:=by unfold jnB;rw [Hb.out];simp
    exact⟨e,Qgd e⟩)
   obtain⟨r0,r1⟩:=k.q2;have f0:=k.f 0;have f1:=k.f 1;have z:=hid (k.set (.slice none 0 0) (.slice none 0 0));go_wp2_with fail;obtain⟨s,A⟩:=z.q2;refine zF (v:=.tuple #[.agg #[.slice none 0 0,.slice none 0 0],.bool false]) (by simp [results,Tryz.results82,go_sem,s,A]) ⟨none,0,none,0,by rw [j.1,j.2];rfl,?_,?_⟩
   ·rw [j.2];exact SOw.emp _ _ _ _ _ (by simp [World.setCell];exact E.size)
   ·exact(E.setCell (by simp;omega) _).setCell (by simp;omega) _
  | true=>
   obtain⟨x0,bm,rfl,rfl,rfl,o1⟩:=Hr rfl;obtain⟨y0,H7,rfl,rfl,rfl,o3⟩:=Hs rfl;have o:=Qcx Hh;have b:=Qcx Hb;have O:=hid (Qfq w4 ((o1.bw Hd).bw R) (o3.bw He) o.w b.w);have Hp:Hid ((jnS S S').l.length<=2000/\ (jnU S S').length<=4000):=hid (Qis o.w b.w);have J:=hid (And.intro (QgL o.w b.w) (And.intro (fun x hx=>(Qge o.w b.w x hx).2.2.2) (And.intro (QmH o.w b.w) (fun hl=>Qkz o.w b.w hl))));have X2:=Hx.bw R Hx.lt;obtain⟨p0,p1,p2⟩:=X2.q3;obtain⟨q0,q1,m⟩:=H1.q3;clear o1 o3 o b X2 Hr Hs;go_wp2_with fail;try rw [D]
   clear D;refine O.mono ?_;rintro e w5 ⟨⟨P,bd,rfl,lv⟩,b5⟩;obtain⟨w6,F⟩:=zE (w5.alloc (.cells #[.map (some P.1),.map (some P.2),.map (some bd)] 160));have b6:Bl w5 w6:=by rw [<- F];exact zO _ _
   have X6:Bx3 w6 w5.heap.size (.map (some P.1)) (.map (some P.2)) (.map (some bd)):=by rw [<- F];exact Bx3.made _ _ _ _ _
   have Hy:=hid X6;have Hq:=hid (lv.bw b6);have Hc:=hid (Qaa b5 b6);have Hl:=hid (E.trans (Hc.mono E.size));have Hu:=hid (k.bw Hc k.lt);have K:=hid (Qg4 w6 Hq J.1 J.2.1 (by have:=Hp.out;omega) (by have:=Hp.out;omega));have Hn:Hid ((decide ((jnS S S').l.length<=1000) && decide ((jnU S S').length<=1000))=jnF S S'):=hid rfl;rw [Hn.out] at K;obtain⟨B,hB⟩:=zE (jnF S S');have T:=hid hB;rw [hB] at K;obtain⟨e0,e1,e2⟩:=X6.q3;clear lv b5 b6 X6 hB Hn p0 p1 p2 q0 q1 m O;go_wp2_with fail;try rw [F]
   clear F;refine K.mono ?_;rintro e y ⟨rfl,Y⟩;have H:=hid (Hl.trans (Y.mono Hl.size));have g:=hid (Hu.bw Y Hu.lt);have X7:=Hy.bw Y Hy.lt;have Hf:=hid (Hq.bw Y);obtain⟨g0,g1,g2⟩:=X7.q3;clear Y X7 e0 e1 e2 K;cases B with
   | false=>
    have j:Hid (jnB S S'=false/\ jnZ S S'=Sx.mt):=hid (by
     have e:jnB S S'=false:=by unfold jnB;rw [T.out];simp
     exact⟨e,Qgd e⟩)
    obtain⟨r0,r1⟩:=g.q2;have f0:=g.f 0;have f1:=g.f 1;have z:=hid (g.set (.slice none 0 0) (.slice none 0 0));go_wp2_with fail;obtain⟨s,A⟩:=z.q2;refine zF (v:=.tuple #[.agg #[.slice none 0 0,.slice none 0 0],.bool false]) (by simp [results,Tryz.results82,go_sem,s,A]) ⟨none,0,none,0,by rw [j.1,j.2];rfl,?_,?_⟩
    ·rw [j.2];exact SOw.emp _ _ _ _ _ (by simp [World.setCell];exact H.size)
    ·exact(H.setCell (by simp;omega) _).setCell (by simp;omega) _
   | true=>
    have j:Hid (jnB S S'=true/\ jnZ S S'=jnS S S'):=hid (by
     have e:jnB S S'=true:=by unfold jnB;rw [T.out,Hh.out,Hb.out];rfl
     exact⟨e,Qlw e⟩)
    have Hv:=hid (QiV y Hf J.2.2.1 (J.2.2.2 (by have:=T.out;unfold jnF at this;simp at this;exact this.1)));obtain⟨L,Hi⟩:=zE ((jnS S S').l.length);obtain⟨M,Hj⟩:=zE ((jnU S S').length);rw [Hi,Hj] at Hv;have O:=hid Hi;have Ho:=hid Hj;clear Hi Hj;go_wp2_with fail;refine Hv.mono ?_;rintro e w8 ⟨⟨q,p,u,r,rfl,lb,fr,hz⟩,b8⟩;have U:=g.bw b8 g.lt;obtain⟨r0,r1⟩:=U.q2;have f0:=U.f 0;have f1:=U.f 1;have z:=hid (U.set (.slice q L p) (.slice u M r));have Hm:=hid (H.trans (b8.mono H.size));have H2:Hid (w.heap.size+1+1<y.heap.size):=hid g.lt;have H0:=hid lb;have Hz:=hid fr;have H5:=hid hz;clear lb fr hz b8 U g0 g1 g2;go_wp2_with fail;obtain⟨s,A⟩:=z.q2;refine zF (v:=.tuple #[.agg #[.slice q L p,.slice u M r],.bool true]) (by simp [results,Tryz.results82,go_sem,s,A]) ⟨q,p,u,r,by rw [j.1,j.2,O.out,show (jnS S S').n=M from Ho.out],?_,?_⟩
    ·rw [j.2];have H8:=H2.out;have H3:=Hm.size;have l9:=((H0.set ⟨w.heap.size+1+1,0,none⟩ (.slice q L p) (by show w.heap.size+1+1<y.heap.size+2;omega)).set ⟨w.heap.size+1+1,1,none⟩ (.slice u M r) (by show w.heap.size+1+1<y.heap.size+2;omega)).low (show w.heap.size<=y.heap.size+2 by omega);have f9:=((Hz.setLow ⟨w.heap.size+1+1,0,none⟩ (.slice q L p) (by show w.heap.size+1+1<y.heap.size+2;omega)).setLow ⟨w.heap.size+1+1,1,none⟩ (.slice u M r) (by show w.heap.size+1+1<y.heap.size+2;omega)).weak (show w.heap.size<=y.heap.size+2 by omega);exact SOw.of (ul:=jnU S S') (by rw [O.out];exact l9) (by rw [show (jnS S S').n=M from Ho.out];exact f9) rfl rfl rfl rfl (by simp [World.setCell];exact H3)
    ·exact(Hm.setCell (by simp;omega) _).setCell (by simp;omega) _
def DOk (ds:List Dt):Prop:=∀d∈ds,(0<=d.1/\ d.1<8)/\ 1<=d.2/\ d.2<=1000000000
theorem RdI.bd{ds:List Dt}(h:RdI L ds)(r:Int):∀q∈L r,0<=q.2/\ q.2<=1000000000:=fun q hq=>by
 have:=(h.srt r).2 q hq;omega
theorem QiL (a:Option Addr)(cp:Nat)(ds:List Dt)(w:World)(hlen:ds.length<=2000)(hok:DOk ds)(h:Qjl w a ds):
  Cl 127 #[.slice a ds.length cp] w fun e w'=>(∃bm n D G L,e=.returned (.map (some bm))/\ n<=2000/\ Qaz w' bm n D G L/\ (∀r,Srt (L r))/\ (∀r x,In (L r) x↔(r,x)∈ds)/\ (∀r,(L r).length<=2000)/\ w.heap.size<=bm)/\ Bl w w':=by
 have Gd:=@run_makeMap Tryz.prog;obtain⟨w1,Y⟩:=zE (w.alloc (.map #[] 0));have b1:Bl w w1:=by rw [<- Y];exact zO _ _
 have Hp:Hid (Qaz w1 w.heap.size 0 (.map []) (fun _=> .slice none 0 0) (fun _=>[])):=hid (by rw [<- Y];exact Qe4 w);have Gb:Hid (w1.heap.size=w.heap.size+1):=hid (by rw [<- Y];simp);have Hy:=hid b1;have Hr:=hid (h.bw b1);have H5:=hid hok;clear b1 h hok;go_enter Tryz.func127,Tryz.ntmps127;go_wp2_with fail;try rw [Y]
 refine(Qje a ds.length cp w1).mono ?_;rintro e s ⟨rfl,T⟩;have X:Bl w1 s:=by rw [T];exact zO _ _
 have c2:s.cell? ⟨w1.heap.size,0,none⟩=some (.slice a ds.length cp):=by rw [T];simp
 have z2:w1.heap.size<s.heap.size:=by rw [T];simp
 have Hs:=hid (Qgw _ _ (enters_of Tryz.func172 (by kernel_rfl) rfl) ds.length (fun W=>W=ds) s (by omega) (fun W e=>by rw [e];exact Nat.le_refl _) (QfC w1.heap.size cp a ds s (by omega) z2 c2 (Hr.bw X)));have Hn:=hid (Qaa Hy X);have He:=hid X;clear T X c2 Y Gd;go_wp2_with fail;refine Hs.mono ?_;rintro e w3 ⟨v,m,rfl,⟨W,rfl,P⟩,Hc,Gi,Hd,B⟩;obtain⟨ta,tc,rfl,_,Ge,Gf⟩:=Qca Hd;have Hg:=hid Hd;have Ho:=hid (Hn.trans (B.mono Hn.size));have Hq:=hid ((Hp.bw He).bw B);have HP:=hid P;have H8:=hid Hc;have Gg:m.length<=2000:=by rw [P.length_eq];exact hlen
 have H6:Hid (DOk m):=hid (fun d o=>H5.out d (P.mem_iff.1 o));have Hu:Hid (w.heap.size<w3.heap.size):=hid (by have:=Gb.out;have:=He.size;have:=B.size;omega);clear Hd B P Hc Hs Hp Hr;go_wp2_with fail;go_loopw [11] (fun i wr=>∃(k:Nat) (D:DataW Value) (G:Int ->Value) (L:Int ->List (Int×Int)),k<=m.length/\ i=.int .i64 k/\ Hid (Qaz wr w.heap.size k D G L)/\ Hid (RdI L (m.take k))/\ Hid (Bl w wr)/\ Hid (wr.ownsRow s.heap.size 104 2 (.slice ta m.length tc) m.length (Ds.kRow m))/\ Hid (w.heap.size<wr.heap.size)) (fun i _=>m.length - (intOf i).toNat);case atStart=>exact⟨0,_,_,_,Nat.zero_le _,rfl,Hq,hid (by simpa using RdI.nil),Ho,Hg,Hu⟩
 case round=>
  clear Hq Ho Hg Hu;obtain⟨k,D,G,L,V,rfl,Q,A,HB,HO,E⟩:=hrel;by_cases p:k<m.length
  ·obtain⟨r,q,o⟩:∃r q,gD m k=(r,q):=⟨_,_,rfl⟩;obtain⟨a',c',e',Hk,_,_⟩:=Qca HO;injection e' with e1 e2 e3;subst e1 e3;obtain⟨g,rfl,hg,hc⟩:∃g,ta=some ⟨g,0,none⟩/\ g<wr.heap.size/\∀i,i<m.length ->wr.cell? ⟨g,i*2,none⟩=some (.int .i64 (gD m i).1)/\ wr.cell? ⟨g,i*2+1,none⟩=some (.int .i64 (gD m i).2):=by
    rcases Hk with h|h
    ·omega
    ·exact h
   have q0:=(hc k p).1;have q1:=(hc k p).2;rw [o] at q0 q1;dsimp only at q0 q1;have F:=H6 _ (Qm5 p);rw [o] at F;dsimp only at F;have Hw:(Lit.int .i64 r).wf=true:=wfI (by omega) (by omega);have H9:Hid (m.take (k+1)=m.take k++[(r,q)]):=hid (by rw [Qii p,o]);have H3:Hid (∀e∈m.take k,e.1=r ->e.2<=q):=hid (fun e he e1=>by
    obtain⟨j,hj,ej⟩:=List.getElem_of_mem he;rw [List.length_take] at hj;rw [List.getElem_take] at ej;have hs:=List.pairwise_iff_getElem.1 H8 j k (by omega) p (by omega);have ek:m[k]=(r,q):=by rw [<- o];simp [gD,List.getD,p]
    rw [ej,ek] at hs;exact Qjq (x:=e) (y:=(r,q)) hs e1)
   obtain⟨u,U⟩:=zE (wr.alloc (.cells #[.int .i64 r,.int .i64 q] 104));have bW:Bl wr u:=by rw [<- U];exact zO _ _
   have zW:u.heap.size=wr.heap.size+1:=by rw [<- U];simp
   have X1:Bx2 u wr.heap.size (.int .i64 r) (.int .i64 q):=by rw [<- U];exact Bx2.made _ _ _ _
   obtain⟨r0,r1⟩:=X1.q2;have C:=Q.bw bW.drew;have Hv:=C.look r Hw;obtain⟨G0,M⟩:=zE (G r);rw [M] at Hv;have R:SR u.drew (w.heap.size+1) G0 (L r):=by rw [<- M];exact C.rows r
   obtain⟨Z,H,I,Hi⟩:∃Z H I,G0=.slice Z H I:=QaK R;subst Hi;have Hx:=hid (Qby (w.heap.size+1) (.slice Z H I) (L r) q q u.drew (by have:=E.out;show w.heap.size+1<=u.heap.size;omega) (by have:=A.len r;rw [List.length_take] at this;omega) R (A.bd r));have Hh:some wr.heap.size≠(Value.slice Z H I).ownBlock:=fun e=>by
    have:=((Q.rows r).lt _ (by rw [M];exact e.symm)).2;omega
   have Hj:some w.heap.size≠(Value.slice Z H I).ownBlock:=fun e=>by
    have:=((Q.rows r).lt _ (by rw [M];exact e.symm)).1;omega
   have Hf:=hid C.own;have Hl:=hid bW.drew;have H1:=hid M;have Ht:=hid R;have Ga:=hid Hw;have N:=hid (And.intro Hh Hj);have Gh:=hid X1;have H0:=hid F;have Hm:=hid zW;have i1:(0:Int)<=(k:Int):=Int.natCast_nonneg _;have i2:(k:Int)<(m.length:Int):=by omega
   clear Hk hc o F R bW C X1 M Hh Hj;go_wp2_with fail;try rw [U]
   clear q0 q1 U;refine zR (S:=fun w'=>w'.cell? ⟨wr.heap.size,0,none⟩=some (.int .i64 r)/\ w'.cell? ⟨wr.heap.size,1,none⟩=some (.int .i64 q)) ⟨r0,r1⟩ (fun qh=> ?_);refine tZ 0 15 ?_;refine tZ 1 16 ?_;refine tZ 2 17 ?_;refine tZ 3 18 ?_;refine tZ 4 19 ?_;refine tZ 5 20 ?_;refine tZ 7 22 ?_;refine tZ 8 23 ?_;refine tZ 9 24 ?_;refine tZ 10 25 ?_;refine tZ 11 26 ?_;refine cZ 6 ?_;intro K t;go_simp;refine t.out _ _ ⟨r0,r1⟩ (fun qh=> ?_);clear t K;try simp only [zP]
   refine cZ 12 ?_;intro K t;go_simp;refine Hx.mono ?_;rintro e w5 ⟨v',rfl,Ha,z⟩;have O:w5.cell? ⟨wr.heap.size,0,none⟩=some (.int .i64 r)/\ w5.cell? ⟨wr.heap.size,1,none⟩=some (.int .i64 q):=⟨z.g.cell r0 N.1,z.g.cell r1 N.1⟩;refine t.out _ _ ⟨O.1,O.2⟩ (fun qh=> ?_);clear t K;try simp only [zP]
   refine cZ 13 ?_;intro K t;rw [if_pos (by rfl)];refine QcY _ _ _ _ _ (by rfl) 3 215 (int_keyed Tryz.underlying3) Tryz.underlying158 Qcj w.heap.size k D (by rfl) (Hf.kept z.g N.2) (by unfold maxLen;omega) (.int .i64 r) v' (kI r) (by rfl) (by rfl) (keyOf_int_mk Tryz.underlying3 Ga) (.held v') [] (Qdm Ha) ?_;intro J Hb b;have BE:J.cell? ⟨wr.heap.size,0,none⟩=some (.int .i64 r)/\ J.cell? ⟨wr.heap.size,1,none⟩=some (.int .i64 q):=⟨b.cell O.1 (by have:=E.out;simp;omega),b.cell O.2 (by have:=E.out;simp;omega)⟩;refine t.out _ _ ⟨BE.1,BE.2⟩ (fun qh=> ?_);clear t K;try simp only [zP]
   refine zD ?_;have H2:Hid (Qaz J w.heap.size (k+1) (D.put (kI r) (.held v')) (upd G r v') (upd L r (QdP (L r) (q,q)))):=hid (Q.stepS Hl Ha (QgB _ _).2 (by rw [H1.out];exact z) Hb b);have H7:Hid (RdI (upd L r (QdP (L r) (q,q))) (m.take (k+1))):=hid (by
    rw [H9.out];exact A.step (d:=(r,q)) H0.2 H3)
   have H4:Hid (J.ownsRow s.heap.size 104 2 (.slice (some ⟨g,0,none⟩) m.length tc) m.length (Ds.kRow m)):=hid (by
    have o1:=QbS HO Hl;have o2:=o1.kept z.g (QlL o1 Ht (by decide));exact o2.kept b (Qgu o2 (Hf.kept z.g N.2)))
   have Hz:=hid (((HB.trans (Hl.mono HB.size)).grown z.g (by have:=E.out;show w.heap.size<=u.heap.size;have:=Hm.out;omega) (fun k V=>by have:=(World.ownsRow.lt Ht k V).1;omega)).grown b (by have h1:=z.g.size;have h2:=E.out;have h3:=Hm.out;have h4:u.drew.heap.size=u.heap.size:=rfl;omega) (fun k V=>by injection V with V;omega));have Gc:Hid (w.heap.size<J.heap.size):=hid (by have h1:=z.g.size;have h2:=E.out;have h3:=Hm.out;have h4:u.drew.heap.size=u.heap.size:=rfl;have h5:=b.size;omega);clear qh O BE Ha z Hb b Hv;go_wp2_with fail;go_roundw;case rel=>exact⟨k+1,_,_,_,p,by go_num,H2,H7,Hz,H4,Gc⟩
   case measure=>simp [intOf];omega
  ·obtain rfl:k=m.length:=by omega
   have HE:Hid ((∀r x,In (L r) x↔(r,x)∈W)/\∀r,(L r).length<=2000):=hid ⟨fun r x=>by
    have:=A.mem r x;rw [List.take_length,HP.mem_iff] at this;exact this,fun r=>by have:=A.len r;rw [List.take_length] at this;omega⟩
   go_wp2_with fail;go_ret;exact⟨⟨w.heap.size,m.length,D,G,L,rfl,Gg,Q,A.srt,HE.1,HE.2,Nat.le_refl _⟩,HB⟩
end Go.Proofs.YtgmjgboibfdaeaaGreatDoor
