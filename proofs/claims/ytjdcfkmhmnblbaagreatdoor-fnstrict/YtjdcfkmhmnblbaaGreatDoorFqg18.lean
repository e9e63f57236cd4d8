import Derived.Test.YtjdcfkmhmnblbaaGreatDoorFqg17
import Derived.RegionTactic
import Derived.ChangeAlike
import Derived.WalkSmall
import Derived.Test.YtjdcfkmhmnblbaaGreatDoorFqg09
set_option linter.unusedVariables false
set_option linter.unusedSimpArgs false
set_option maxRecDepth 100000
set_option maxHeartbeats 40000000
namespace Go.Proofs.YtjdcfkmhmnblbaaGreatDoor
theorem QdI:∀{G:List Gr3},(∀g∈G,g.2.1≠[]) ->G.length<=(G.flatMap fun g=>g.2.1).length
 | [],_=>by simp
 | g::G,h=>by
  have j:=QdI (G:=G) (fun x hx=>h x (List.mem_cons_of_mem _ hx));have:1<=g.2.1.length:=List.length_pos_iff.2 (h g List.mem_cons_self);rw [List.flatMap_cons,List.length_append,List.length_cons];omega
theorem Qfn {p:List ByteArray}{x:Lf}{y:Ky}(hx:QbW x)(h:nx p x=some y):y.1.size≠0/\ p.length<8:=by
 rw [Qbi] at h;obtain⟨⟨_,m⟩,e⟩:=h;have j:gS x.p p.length=y.1:=congrArg Prod.fst e;have k:=(hx.1.2.2 p.length m).1;rw [j] at k;have:=hx.1.2.1;exact⟨by omega,by omega⟩
theorem Qja {s:ByteArray}{k:Int}(h:s.size≠0):QbA (ByteArray.empty,0) (s,k)<0:=by
 have e:ltS ByteArray.empty s=true:=by
  unfold ltS;rw [Lib.toList_data,Lib.toList_data];obtain⟨⟨l⟩⟩:=s;cases l with
  | nil=>exact absurd rfl h
  | cons a l=>rfl
 unfold QbA QbH;simp [e,orI]
section
variable {K : Int -> Int -> Bool}
def Qot (K:Int ->Int ->Bool)(d:Nat):Prop:=∀p acc B U,EnT d p B U ->VB K B ->(∀y∈acc,∀z∈B,Dif y z) ->(acc++B).length<=1000 ->p.length+d=9 ->(p≠[] ->B≠[]) ->RT K d p acc B U
theorem Qou {d:Nat}(hK:KOk K)(ih:Qot K d){p:List ByteArray}(hd:p.length+(d+1)=9){acc:List Lf}{g:Gr3}(h1:g.2.1≠[]/\∀z∈g.2.1,nx p z=some g.1)(h2:if g.1.2=3 then EnT d (p++[g.1.1]) g.2.1 g.2.2 else g.2.2=mB g.2.1 g.1.2)
  (hv:VB K g.2.1) (hx:∀y∈acc,∀z∈g.2.1,Dif y z) (hl:(acc++g.2.1).length<=1000):RD K (RT K d) p g.1 acc g.2.1 g.2.2:=by
 unfold RD;by_cases m:g.1.2=3
 ·rw [if_pos m] at h2 ⊢;exact ih _ _ _ _ h2 hv hx hl (by simp;omega) (fun _=>h1.1)
 ·rw [if_neg m] at h2 ⊢;have j:∀z∈g.2.1,z.p=p++[g.1.1]/\ kd z.fl=g.1.2:=fun z j=>Qb1 m (h1.2 z j);obtain⟨o,t⟩:=List.exists_mem_of_ne_nil _ h1.1;have v:g.1.2=1 \/g.1.2=2:=by rw [<- (j o t).2];exact QgB _
  refine⟨v,h1.1,by simp at hl;omega,Qle (fun z hz'=>⟨⟨(j z hz').1,?_,(hv.ok z hz').2,(hv.ok z hz').1.2.1,fun e=> ?_⟩,?_⟩) ?_ hx hl,h2⟩
  ·have:=(j z hz').2;cases e:z.fl
   ·rw [e] at this;rw [<- this];rfl
   ·rw [e] at this;rw [<- this];rfl
  ·have:=(j z hz').2;rw [e] at this;refine QdG.1 ((hv.ok z hz').1.2.2 ?_);cases k:z.fl
   ·rw [k] at this;simp [kd] at this
   ·rfl
  ·obtain⟨i,_,s,_⟩:=hK _ _ (hv.ok z hz').2;unfold Qbh orI QaV;simp only;by_cases e:0<z.r
   ·simp [e]
   ·have k:z.r=0:=by omega
    simp [k];omega
  ·refine List.Pairwise.imp_of_mem ?_ hv.ord;intro a b q u h;rwa [Qgc ((j a q).1.trans (j b u).1.symm) (Qly ((j a q).2.trans (j b u).2.symm))] at h
theorem Qnf {d:Nat}(hK:KOk K)(ih:Qot K d){p:List ByteArray}(hd:p.length+(d+1)=9):∀{G:List Gr3} {before:Ky} {acc:List Lf},
  (∀g∈G,(g.2.1≠[]/\∀z∈g.2.1,nx p z=some g.1)/\ (if g.1.2=3 then EnT d (p++[g.1.1]) g.2.1 g.2.2 else g.2.2=mB g.2.1 g.1.2)) ->(G.map Prod.fst).Pairwise (fun x y=>QbA x y<0) ->(∀g∈G,QbA before g.1<0) ->
  VB K (G.flatMap fun g=>g.2.1) ->(∀y∈acc,∀z∈G.flatMap (fun g=>g.2.1),Dif y z) ->(acc++G.flatMap fun g=>g.2.1).length<=1000 ->RK K (RT K d) p before acc G
 | [],_,_,_,_,_,_,_,_=>trivial
 | g::G,before,acc,h1,h2,h3,h4,h5,h6=>by
  rw [List.flatMap_cons] at h4 h5 h6;obtain⟨r,t,o⟩:=h4.parts;rw [List.map_cons,List.pairwise_cons] at h2;obtain⟨k,u⟩:=h1 g List.mem_cons_self;obtain⟨q,m⟩:=List.exists_mem_of_ne_nil _ k.1;have v:=Qfn (r.ok q m).1 (k.2 q m);have h:=Qeb (r.ok q m).1 (k.2 q m);refine⟨⟨v.1,h,h3 g List.mem_cons_self⟩,Qou hK ih hd k u r (fun y j z hz=>h5 y j z (by simp [hz])) (by simp at h6 ⊢;omega),?_⟩;refine Qnf hK ih hd (fun x hx=>h1 x (List.mem_cons_of_mem _ hx)) h2.2 (fun x hx=>h2.1 x.1 (List.mem_map.2 ⟨x,hx,rfl⟩)) t (fun y j z hz=> ?_) (by rw [List.append_assoc];exact h6);rcases List.mem_append.1 j with j|j
  ·exact h5 y j z (by simp [hz])
  ·exact o y j z hz
theorem Qng (hK:KOk K):∀d,Qot K d
 | 0=>fun p acc B U h=>h.elim
 | d+1=>fun p acc B U ⟨G,hB,hU,hk,hG⟩ hv hx hl hd hp=>by
  subst hB;have q:=QdI (G:=G) (fun g j=>(hG g j).1.1);refine⟨G,rfl,hU,by rw [List.length_append] at hl;omega,fun e=> ?_,fun e=> ?_,Qnf hK (Qng hK d) hd hG hk (fun g j=> ?_) hv hx hl⟩
  ·by_cases m:p=[]
   ·rw [m];rfl
   ·exact absurd (by rw [e];rfl) (hp m)
  ·obtain⟨g,j⟩:=List.exists_mem_of_ne_nil _ e;obtain⟨z,k⟩:=List.exists_mem_of_ne_nil _ (hG g j).1.1;have:z∈G.flatMap fun g=>g.2.1:=by simpa using ⟨g.1.1,g.1.2,g.2.1,⟨g.2.2,j⟩,k⟩
   exact(Qfn (hv.ok z this).1 ((hG g j).1.2 z k)).2
  ·obtain⟨z,k⟩:=List.exists_mem_of_ne_nil _ (hG g j).1.1;have:z∈G.flatMap fun g=>g.2.1:=by simpa using ⟨g.1.1,g.1.2,g.2.1,⟨g.2.2,j⟩,k⟩
   exact Qja (Qfn (hv.ok z this).1 ((hG g j).1.2 z k)).1
end
theorem QfA {R F T:Nat ->Int}{n:Nat}{l:List Lf}(h:QbS R F T n l l.length):∀(d:Nat) (p:List ByteArray),p.length+d=9 ->0<d ->EnT d p (uL l p l.length) (tB l d p)
 | 0,_,_,h0=>by omega
 | d+1,p,hd,_=>by
  obtain⟨E,M⟩:=QdT p h l.length zL;have s:∀y∈kS l p l.length,∃j,j<l.length/\ nx p (gL l j)=some y:=fun y m=>(M y).1 m;refine⟨(kS l p l.length).map fun y=>(y,dsK l p y l.length,if y.2=3 then tB l d (p++[y.1]) else mB (dsK l p y l.length) y.2),?_,?_,?_,?_⟩
  ·rw [List.flatMap_map,<- QdK p h l.length zL]
  ·rw [Qf1,List.length_map,List.flatMap_map];rfl
  ·rw [List.map_map];simpa [Function.comp_def] using E
  ·intro g t;obtain⟨y,m,rfl⟩:=List.mem_map.1 t;obtain⟨j,r,u⟩:=s y m;refine⟨⟨?_,fun z hz=> ?_⟩,?_⟩
   ·exact List.ne_nil_of_mem (Qbc.2 ⟨j,r,u,rfl⟩)
   ·obtain⟨i,_,o,rfl⟩:=Qbc.1 hz;exact o
   ·by_cases k:y.2=3
    ·simp only [if_pos k];have q:y=(y.1,3):=by rw [<- k]
     have v:dsK l p y l.length=uL l (p++[y.1]) l.length:=by
      conv=>lhs;rw [q]
      exact QiF l p y.1 l.length
     rw [v];have b:nx (p++[y.1]) (gL l j)≠none:=QcG.1 (by rw [<- q];exact u);have A:=(Qfo.1 b).2;have O:=(h j r).1.1.2.1;simp at A;exact QfA h d (p++[y.1]) (by simp;omega) (by omega)
    ·simp only [if_neg k]
theorem Qlf {R F T:Nat ->Int}{n:Nat}{l:List Lf}:VB (fun r q=>Qct R F T r q q n) l↔QbS R F T n l l.length/\ Dis l l.length:=by
 have m:∀{i:Nat} (k:i<l.length),gL l i=l[i]:=fun{i} k=>by simp [gL,List.getD,k]
 constructor
 ·intro h;refine⟨fun i k=> ?_,fun i k j hj=> ?_⟩
  ·rw [m k];refine⟨(h.ok _ (List.getElem_mem k)).1,(h.ok _ (List.getElem_mem k)).2,fun h0=> ?_⟩;rw [m (by omega:i - 1<l.length)];exact List.pairwise_iff_getElem.1 h.ord (i - 1) i (by omega) k (by omega)
  ·rw [m k,m (by omega:j<l.length)];exact List.pairwise_iff_getElem.1 h.dif j i (by omega) k hj
 ·rintro⟨u,v⟩;refine⟨fun z hz=> ?_,List.pairwise_iff_getElem.2 fun i j k hj hij=> ?_,List.pairwise_iff_getElem.2 fun i j k hj hij=> ?_⟩
  ·obtain⟨i,k,rfl⟩:=List.getElem_of_mem hz;have:=u i k;rw [m k] at this;exact⟨this.1,this.2.1⟩
  ·have:=u.lt j hij hj;rwa [m k,m hj] at this
  ·have:=v j hj i hij;rwa [m k,m hj] at this
theorem Qde {f:Nat ->Int}(hf:Byt f){n:Nat}{R F T:Nat ->Int}{m:Nat}(hK:KOk (fun r q=>Qct R F T r q q m)){x x':Nat}{l:List Lf}:
  Qcv f n (fun r q=>Qct R F T r q q m) 9 [] [] x=some (l,x')/\ x<=n↔(QbS R F T m l l.length/\ Dis l l.length/\ l.length<=1000)/\ At f x (tB l 9 [])/\ x'=x+(tB l 9 []).length/\ x'<=n:=by
 rw [QhK hf hK 9 [] [] x l x'];constructor
 ·rintro⟨B,U,o,E,k,v,u⟩;rw [List.nil_append] at o;subst o;obtain⟨b,p,O,Q,t,V⟩:=Qhh 9 [] [] l U E (fun s hs=>by simp at hs) (by simp);have A:U=tB l 9 []:=by
   have:=Qla 9 [] l U [] [] b (fun z hz=>by simp at hz) (fun z hz=>by simp at hz);simpa using this
  subst A;obtain⟨j,g⟩:=Qlf.1 p;simp only [List.nil_append] at t ⊢;exact⟨⟨j,g,t⟩,k,v,u⟩
 ·rintro⟨⟨j,g,M⟩,k,v,u⟩;have i:=QfA j 9 [] rfl (by decide);rw [QjK j _ zL,List.take_length] at i;exact⟨l,tB l 9 [],rfl,Qng hK 9 [] [] l _ i (Qlf.2 ⟨j,g⟩) (fun y hy=>by simp at hy) (by simpa using M) rfl (fun h=>absurd rfl h),k,v,u⟩
open Go.ChangeShapes Go.WideShapes Go.ChangeAt Go.RowKit Go.Maps
variable {EX : Nat -> Option Value}
theorem Qn7 {w:World}{bm n:Nat}{D:DataW Value}{G:Int ->Value}{L:Int ->List (Int×Int)}(h:Qdt w bm n D G L)(r f t:Int)(hr:(Lit.int .i64 r).wf=true)(hs:Srt (L r))(hl:(L r).length<=1000000):
  Calls Tryz.prog 116 #[.map (some bm),.int .i64 r,.agg #[.int .i64 f,.int .i64 t]] w fun e w'=>e=.returned (.bool (inB (L r) f t))/\ Below w.heap.size w w':=by
 obtain⟨k,u⟩:∃k,w.alloc (.cells #[.int .i64 f,.int .i64 t] 157)=k:=⟨_,rfl⟩;have z:Below w.heap.size w k:=by rw [<- u];exact zO _ _
 have z0:k.heap.size=w.heap.size+1:=by rw [<- u];simp
 have x0:k.cell? ⟨w.heap.size,0,none⟩=some (.int .i64 f):=by rw [<- u];simp
 have N:k.cell? ⟨w.heap.size,1,none⟩=some (.int .i64 t):=by rw [<- u];simp
 have O:=h.below z;have Y:=O.look r hr;have o:=O.rows r;obtain⟨a,c,e,J,Ha⟩:∃a c,G r=.slice a (L r).length c/\ SS k a (L r).length (fun i=>((L r).getD i (0,0)).1) (fun i=>((L r).getD i (0,0)).2)/\ ((L r).length≠0 ->∃g,a=some ⟨g,0,none⟩):=by
  rcases o.2 with ⟨e,M⟩|⟨g,cap,F,e,_⟩
  ·exact⟨none,0,by rw [e,M],.inl M,fun h=>absurd M h⟩
  ·exact⟨_,cap,e,by rw [e] at o;exact QhQ o rfl,fun _=>⟨g,rfl⟩⟩
 rw [e] at Y;have y:=hid J;have A:=hid (Qlv hs f t);have E:Hid (∀i j,i<j ->j<(L r).length ->(fun i=>((L r).getD i (0,0)).2) i<(fun i=>((L r).getD i (0,0)).2) j):=fun i j hij hj=>by
  have:=Qfw hs hij hj;show ((L r).getD i (0,0)).2<((L r).getD j (0,0)).2;omega
 clear e o O h hs J;generalize Hb:(L r).length=m at*;go_enter Tryz.func116,Tryz.ntmps116;go_wp2_with fail;try rw [u]
 refine(Qi6 a m c _ _ t _ (by omega) y.out E.out).mono ?_;rintro e K ⟨i,P,rfl,C,Z,U,q⟩;clear u;have s:=hid (A i C Z U);have H:=(q.cell (p:=⟨w.heap.size,0,none⟩) (show w.heap.size<k.heap.size by omega)).trans x0;have b:=hid (Qac z q);by_cases V:i<m
 ·have B:∃g off,a=some ⟨g,off,none⟩/\ g<K.heap.size/\ K.cell? ⟨g,off+i*2,none⟩=some (.int .i64 ((L r).getD i (0,0)).1):=by
   rcases y.out with h|⟨g,off,rfl,Q,X⟩
   ·omega
   ·exact⟨g,off,rfl,Nat.lt_of_lt_of_le Q q.size,(q.cell (p:=⟨g,off+i*2,none⟩) Q).trans (X i V).1⟩
  obtain⟨g,off,rfl,Q,I⟩:=B;have T:(0:Int)<=(i:Int):=Int.natCast_nonneg _;have W:(i:Int)<(m:Int):=by omega
  generalize R:((L r).getD i (0,0)).1=fi at*;clear Z U q x0 N Y y E A z;cases hle:decide (fi<=f) with
  | false=>
   have v:Hid (inB (L r) f t=false):=by unfold Hid;rw [s.out,hle];simp
   go_wp2_with fail;refine zR (S:=fun w'=>w'.cell? ⟨w.heap.size,0,none⟩=some (.int .i64 f)/\ w'.cell? ⟨g,off+i*2,none⟩=some (.int .i64 fi)) ⟨H,I⟩ (fun qh=> ?_);refine tZ 0 20 ?_;refine tZ 1 21 ?_;refine tZ 2 22 ?_;refine tZ 3 23 ?_;refine tZ 4 24 ?_;refine tZ 5 25 ?_;refine tZ 6 26 ?_;refine tZ 7 27 ?_;refine tZ 8 28 ?_;refine tZ 9 29 ?_;refine tZ 10 30 ?_;refine tZ 11 31 ?_;refine tZ 12 32 ?_;refine tZ 13 33 ?_;refine tZ 14 6 ?_;refine zD ?_;go_wp2_with fail;go_ret;exact⟨QbD v.symm,b.drew⟩
  | true=>
   have v:Hid (inB (L r) f t=true):=by unfold Hid;rw [s.out,hle];simp [V]
   go_wp2_with fail;refine zR (S:=fun w'=>w'.cell? ⟨w.heap.size,0,none⟩=some (.int .i64 f)/\ w'.cell? ⟨g,off+i*2,none⟩=some (.int .i64 fi)) ⟨H,I⟩ (fun qh=> ?_);refine tZ 0 20 ?_;refine tZ 1 21 ?_;refine tZ 2 22 ?_;refine tZ 3 23 ?_;refine tZ 4 24 ?_;refine tZ 5 25 ?_;refine tZ 6 26 ?_;refine tZ 7 27 ?_;refine tZ 8 28 ?_;refine tZ 9 29 ?_;refine tZ 10 30 ?_;refine tZ 11 31 ?_;refine tZ 12 32 ?_;refine tZ 13 33 ?_;refine tZ 14 6 ?_;refine zD ?_;go_wp2_with fail;go_ret;exact⟨QbD v.symm,b.drew⟩
 ·have v:Hid (inB (L r) f t=false):=by unfold Hid;rw [s.out];simp [V]
  have Hc:decide ((i:Int)<(m:Int))=false:=by simp;omega
  have Hd:decide (i<m)=false:=by simp;omega
  clear Z U q x0 N Y y E A z;go_wp2_with fail;refine zR (S:=fun w'=>w'.cell? ⟨w.heap.size,0,none⟩=some (.int .i64 f)) H (fun qh=> ?_);refine tZ 0 20 ?_;refine tZ 1 21 ?_;refine tZ 2 22 ?_;refine tZ 3 23 ?_;refine tZ 4 24 ?_;refine uZ 5 25 ?_;refine uZ 6 26 ?_;refine uZ 7 27 ?_;refine uZ 8 28 ?_;refine uZ 9 29 ?_;refine uZ 10 30 ?_;refine uZ 11 31 ?_;refine uZ 12 32 ?_;refine tZ 13 33 ?_;refine tZ 14 6 ?_;refine zD ?_;go_wp2_with fail;go_ret;exact⟨QbD v.symm,b.drew⟩
theorem Qpu {w:World}{bm n:Nat}{D:DataW Value}{G:Int ->Value}{L:Int ->List (Int×Int)}(h:Qdt w bm n D G L)(r q:Int)(hr:(Lit.int .i64 r).wf=true)(hs:Srt (L r))(hl:(L r).length<=1000000):
  Calls Tryz.prog 83 #[.map (some bm),.agg #[.int .i64 r,.int .i64 q]] w fun e w'=>e=.returned (.bool (inB (L r) q q))/\ Below w.heap.size w w':=by
 have j:Below w.heap.size w (w.alloc (.cells #[.int .i64 r,.int .i64 q] 75)):=zO _ _;have k:=hid (Qn7 (h.below j) r q q hr hs hl);have u:=hid j;clear j h hs;go_enter Tryz.func83,Tryz.ntmps83;go_wp2_with fail;refine k.mono ?_;rintro e w1 ⟨rfl,m⟩;have v:=hid (Qac u.out m);clear m k;go_wp2_with fail;go_ret;exact⟨rfl,v.out⟩
noncomputable def rdD (f:Nat ->Int)(n x:Nat):Option ((Nat×Nat)×Nat):=(rd f n x 7).bind fun a=>(rd f n a.2 1000000000).bind fun b=>some ((a.1,b.1),b.2)
theorem Qpp (cb B:Nat)(a:Option Addr)(n c x:Nat)(f:Nat ->Int)(aT aS aL aE:Addr)(w:World)(hn:n<=1048576)(hf:Byt f)(hcur:Cur EX w cb a n c (x:Int))(hs:Seg w a n f)(hab:∀y,a=some y ->y.block≠cb)(hE:QcQ w B aT aS aL aE)(hBc:B<=cb):
  Calls Tryz.prog 150 #[.pointer (some ⟨cb,0,none⟩)] w fun e w'=>w.grownBy w' (some cb)/\
   ((∃r q x':Nat,rdD f n x=some ((r,q),x')/\ e=.returned (.tuple #[.agg #[.int .i64 (r:Int),.int .i64 (q:Int)],.nilIface])/\ Cur EX w' cb a n c (x':Int)) \/
    (rdD f n x=none/\∃(r q:Int) (t:TypeId) (v:Value) (y:Int),e=.returned (.tuple #[.agg #[.int .i64 r,.int .i64 q],.iface t v])/\ Cur EX w' cb a n c y)):=by
 have b:=hcur.lt;obtain⟨W,j⟩:∃W,w.alloc (.cells #[.int .i64 0,.int .i64 0] 75)=W:=⟨_,rfl⟩;have F:Below w.heap.size w W:=by rw [<- j];exact zO _ _
 have zW:W.heap.size=w.heap.size+1:=by rw [<- j];simp
 have i:w.grownBy W (some cb):=Qag (Qbm w (some cb)) F;have I:Hid (∀w1,W.grownBy w1 (some cb) ->w1.cell? ⟨w.heap.size,0,none⟩=some (.int .i64 0)/\ w1.cell? ⟨w.heap.size,1,none⟩=some (.int .i64 0)/\ w1.frozen? ⟨w.heap.size,0,none⟩=false/\ w1.frozen? ⟨w.heap.size,1,none⟩=false):=by
  intro w1 g;have H:=g.block w.heap.size (by omega) (by simp;omega);refine⟨?_,?_,?_,?_⟩
  ·rw [World.cell?_of_block H,<- j];simp
  ·rw [World.cell?_of_block H,<- j];simp
  ·have e:w1.frozen? ⟨w.heap.size,0,none⟩=W.frozen? ⟨w.heap.size,0,none⟩:=by unfold World.frozen?;rw [H]
   rw [e,<- j];simp
  ·have e:w1.frozen? ⟨w.heap.size,1,none⟩=W.frozen? ⟨w.heap.size,1,none⟩:=by unfold World.frozen?;rw [H]
   rw [e,<- j];simp
 have Ha:cb<W.heap.size:=by omega
 have X:=hid (QbL cb B a n c x 7 f aT aS aL aE W hn hf (hcur.below F b) (hs.grown i hab) hab (hE.grown i hBc b) hBc (by omega) (by omega));have K:=hid (hE.grown i hBc b);have T:=hid (hs.grown i hab);have D:=hid i;clear hE hcur hs i F;go_enter Tryz.func150,Tryz.ntmps150;go_wp2_with fail;try rw [j]
 clear j;refine X.mono ?_;rintro e w1 ⟨m,⟨V,x1,u,hV,rfl,A⟩|⟨u,t,v,y,rfl,A⟩⟩
 ·rw [Qa4] at u;have C:=hid (QbL cb B a n c x1 1000000000 f aT aS aL aE w1 hn hf A (T.grown m hab) hab (K.grown m hBc Ha) hBc (by omega) (by omega));have h:=hid m;have G:=hid u;clear m u A X K;go_wp2_with fail;refine C.mono ?_;rintro e w2 ⟨o,⟨M,x2,z,hM,rfl,E⟩|⟨z,t,v,y,rfl,E⟩⟩
  ·rw [Qa4] at z;obtain⟨O,Q,P,R⟩:=I _ (Qaf h.out o);have L:=hid (Qaf D.out (Qaf h.out o));have N:=hid z;have J:=hid E;clear o z E C;go_wp2_with fail;obtain⟨Z,k,U,Y,s,p⟩:=QmX (.int .i64 ((V:Int))) (.int .i64 ((M:Int))) L.out J.out b O Q;rw [<- k];clear k;refine zF (v:=.tuple #[.agg #[.int .i64 ((V:Int)),.int .i64 ((M:Int))],.nilIface]) (by simp [results,Tryz.results150,go_sem,U,Y]) ⟨s,.inl ⟨V,M,x2,?_,rfl,p⟩⟩;unfold rdD;rw [G.out];simp only [Option.bind_some];rw [N.out];rfl
  ·rw [Qa4] at z;obtain⟨O,Q,P,R⟩:=I _ (Qaf h.out o);have L:=hid (Qaf D.out (Qaf h.out o));have N:=hid z;have J:=hid E;clear o z E C;go_wp2_with fail;obtain⟨Z,k,U,Y,s,p⟩:=QmX (.int .i64 (V:Int)) (.int .i64 0) L.out J.out b O Q;rw [<- k];clear k;refine zF (v:=.tuple #[.agg #[.int .i64 (V:Int),.int .i64 0],.iface t v]) (by simp [results,Tryz.results150,go_sem,U,Y]) ⟨s,.inr ⟨?_,_,_,_,_,_,rfl,p⟩⟩;unfold rdD;rw [G.out];simp only [Option.bind_some];rw [N.out];rfl
 ·rw [Qa4] at u;obtain⟨O,Q,P,R⟩:=I _ m;have h:=hid (Qaf D.out m);have G:=hid u;have S:=hid A;clear m u A X K;go_wp2_with fail;obtain⟨Z,k,U,Y,s,p⟩:=QmX (.int .i64 0) (.int .i64 0) h.out S.out b O Q;rw [<- k];clear k;refine zF (v:=.tuple #[.agg #[.int .i64 0,.int .i64 0],.iface t v]) (by simp [results,Tryz.results150,go_sem,U,Y]) ⟨s,.inr ⟨?_,_,_,_,_,_,rfl,p⟩⟩;unfold rdD;rw [G.out];rfl
structure UsD (w:World)(ub:Nat)(acc:List Lf)(D:DataW Value):Prop where
 own:w.ownsMap Tryz.prog 75 Qi3 ub acc.length D
 tidy:Tidy D
 has':∀r q kl,keyOf Tryz.prog 75 (Qgm r q)=some kl ->(has D kl=true↔∃y∈acc,y.r=r/\ y.q=q)
 sz:size D=acc.length
 val:∀r q kl,keyOf Tryz.prog 75 (Qgm r q)=some kl ->D.atKey kl (.held (.agg #[]))=.held (.agg #[])
def UsM (w:World)(ub:Nat)(acc:List Lf):Prop:=∃D,UsD w ub acc D
theorem UsM.same {w w':World}{ub:Nat}{acc:List Lf}(h:UsM w ub acc)(e:w'.heap[ub]? =w.heap[ub]?):UsM w' ub acc:=by
 obtain⟨D,h⟩:=h;exact⟨D,QbN h.own e,h.tidy,h.has',h.sz,h.val⟩
theorem UsM.lt {w:World}{ub:Nat}{acc:List Lf}(h:UsM w ub acc):ub<w.heap.size:=by
 obtain⟨D,h⟩:=h;exact h.own.lt
theorem UsM.made (w:World):UsM (w.alloc (.map #[] 0)) w.heap.size []:=
 ⟨.map [],World.ownsMap_made w _ _ _,tidy_empty,fun r q kl hk=>⟨fun h=>by simp [has] at h,fun⟨y,hy,_⟩=>by simp at hy⟩,by simp [size],fun r q kl hk=>rfl⟩
theorem UsD.step {w w':World}{ub:Nat}{acc:List Lf}{D:DataW Value}{z:Lf}{kl:Lit}(h:UsD w ub acc D)(hk:keyOf Tryz.prog 75 (Qgm z.r z.q)=some kl)(hf:∀y∈acc,¬(y.r=z.r/\ y.q=z.q))
  (ho:w'.ownsMap Tryz.prog 75 Qi3 ub (acc.length+1) (D.put kl (.held (.agg #[])))):UsD w' ub (acc++[z]) (D.put kl (.held (.agg #[]))):=by
 have m:=QaF.key hk;have t:=size_put (k:=kl) h.tidy (.held (.agg #[]));have g:¬has D kl=true:=fun hh=>by
  obtain⟨y,j,e⟩:=(h.has' _ _ _ hk).1 hh;exact hf y j e
 refine⟨by simpa using ho,h.tidy.put m _,fun r q kl' hk'=> ?_,?_,fun r q kl' hk'=> ?_⟩
 ·by_cases e:kl'=kl
  ·subst e;obtain⟨u,v⟩:=Qe0 hk hk';rw [has_put_same h.tidy.isMap m];exact⟨fun _=>⟨z,by simp,u,v⟩,fun _=>rfl⟩
  ·rw [has_put_other e,h.has' r q kl' hk'];constructor
   ·rintro⟨y,j,r1⟩;exact⟨y,by simp [j],r1⟩
   ·rintro⟨y,j,r1,r2⟩;rcases List.mem_append.1 j with j|j
    ·exact⟨y,j,r1,r2⟩
    ·simp at j;subst j;rw [r1,r2,hk'] at hk;injection hk with hk;exact absurd hk e
 ·rw [t,if_neg g,h.sz];simp
 ·by_cases e:kl'=kl
  ·subst e;rw [atKey_put_same h.tidy.isMap m]
  ·rw [atKey_put_other e];exact h.val r q kl' hk'
def exT (kb ub:Nat)(i:Nat):Option Value:=if i=2 then some (.map (some kb)) else if i=3 then some (.map (some ub)) else none
def UsP (Kb:Bool)(ub:Nat)(acc:List Lf)(z:Lf)(w:World)(e:Ending)(w':World):Prop:=
 (Kb=true/\ (∀y∈acc,¬(y.r=z.r/\ y.q=z.q))/\ acc.length≠1000/\ e=.returned .nilIface/\ UsM w' ub (acc++[z])/\ w.grownBy w' (some ub)) \/
 (¬(Kb=true/\ (∀y∈acc,¬(y.r=z.r/\ y.q=z.q))/\ acc.length≠1000)/\ (∃t v,e=.returned (.iface t v))/\ Below w.heap.size w w')
theorem QkZ (w:World):(zeroValue 254).run Tryz.prog w=.ok (.agg #[]) w:=by kernel_rfl
theorem Qp2 (tb B kb ub nn:Nat)(a:Option Addr)(n c:Nat)(x:Int)(aT aS aL aE:Addr)(D:DataW Value)(G:Int ->Value)(L:Int ->List (Int×Int))(acc:List Lf)(z:Lf)(w:World)
  (hcur:Cur (exT kb ub) w tb a n c x) (hE:QcQ w B aT aS aL aE) (j:B<=w.heap.size) (hU:UsM w ub acc) (hG:Qdt w kb nn D G L) (hS:∀r,Srt (L r)/\ (L r).length<=1000000) (hr:(Lit.int .i64 z.r).wf=true) (hq:(Lit.int .i64 z.q).wf=true) (hl:acc.length<=1000):
  Calls Tryz.prog 151 #[.pointer (some ⟨tb,0,none⟩),.agg #[.int .i64 z.r,.int .i64 z.q]] w fun e w'=>UsP (inB (L z.r) z.q z.q) ub acc z w e w':=by
 obtain⟨P,hP⟩:∃P,UsP (inB (L z.r) z.q z.q) ub acc z w=P:=⟨_,rfl⟩;rw [hP];have Y:=hid hP;clear hP;obtain⟨W,o⟩:∃W,w.alloc (.cells #[.int .i64 z.r,.int .i64 z.q] 75)=W:=⟨_,rfl⟩;have J:Below w.heap.size w W:=by rw [<- o];exact zO _ _
 have x0:W.cell? ⟨w.heap.size,0,none⟩=some (.int .i64 z.r):=by rw [<- o];simp
 have x1:W.cell? ⟨w.heap.size,1,none⟩=some (.int .i64 z.q):=by rw [<- o];simp
 have zb:w.heap.size<W.heap.size:=by rw [<- o];simp
 have X:=hcur.below J hcur.lt;have zt:=X.lt;have kc:W.cell? ⟨tb,2,none⟩=some (.map (some kb)):=(X.2.2.2 2 (by omega)).1.trans rfl;have uc:W.cell? ⟨tb,3,none⟩=some (.map (some ub)):=(X.2.2.2 3 (by omega)).1.trans rfl;have V:Hid (∀w1,Below W.heap.size W w1 ->Calls Tryz.prog 83 #[.map (some kb),.agg #[.int .i64 z.r,.int .i64 z.q]] w1 fun e w'=>e=.returned (.bool (inB (L z.r) z.q z.q))/\ Below w1.heap.size w1 w'):=hid (fun w1 N=>Qpu (hG.below (Qac J N)) z.r z.q hr (hS z.r).1 (hS z.r).2);obtain⟨Kb,Hk⟩:∃Kb,inB (L z.r) z.q z.q=Kb:=⟨_,rfl⟩;rw [Hk] at V Y;have Ho:=hid J;have HE:=hid hE;have HU:=hid hU;obtain⟨kl,Hl⟩:=QdF hr hq;have s:=hid Hl;clear Hk hE hU hG hS hcur X J Hl;obtain⟨b,F⟩:∃b,z.r=b:=⟨_,rfl⟩;obtain⟨i,C⟩:∃i,z.q=i:=⟨_,rfl⟩;rw [F] at x0 V;rw [C] at x1 V;rw [F,C] at o s ⊢;have A:=hid (And.intro F C);clear F C hr hq;go_enter Tryz.func151,Tryz.ntmps151;go_wp2_with fail;try rw [o]
 clear o;have H:Hid (∀w',Below W.heap.size W w' ->(Below W.heap.size W w'/\ w'.cell? ⟨tb,2,none⟩=some (.map (some kb))/\ w'.cell? ⟨w.heap.size,0,none⟩=some (.int .i64 b)/\ w'.cell? ⟨w.heap.size,1,none⟩=some (.int .i64 i))):=hid (fun w' j=>⟨j,(j.cell (p:=⟨tb,_,none⟩) zt).trans kc,(j.cell (p:=⟨w.heap.size,_,none⟩) zb).trans x0,(j.cell (p:=⟨w.heap.size,_,none⟩) zb).trans x1⟩);refine zR (S:=fun w'=>Below W.heap.size W w'/\ w'.cell? ⟨tb,2,none⟩=some (.map (some kb))/\ w'.cell? ⟨w.heap.size,0,none⟩=some (.int .i64 b)/\ w'.cell? ⟨w.heap.size,1,none⟩=some (.int .i64 i)) (H _ zI.drew) (fun qh=> ?_);refine tZ 0 7 ?_;refine tZ 1 8 ?_;refine tZ 2 9 ?_;refine tZ 3 10 ?_;refine tZ 4 11 ?_;refine cZ 5 ?_;intro K hK;go_simp;refine(V _ qh.1).mono ?_;rintro e w1 ⟨rfl,N⟩;have j:=Qac qh.1 N;refine hK.out _ _ (H _ j) (fun qh=> ?_);clear hK K;try simp only [zP]
 refine tZ 6 13 ?_;refine zD ?_;obtain⟨_,_,y0,y1⟩:=H _ j;have Hm:=(j.cell (p:=⟨tb,3,none⟩) zt).trans uc;have m:=hid (Qac Ho.out j);have Hf:=hid (HE.below (m.mono (by omega)));have I:=hid (HU.same (m.block ub HU.lt));have Hj:=hid j.size;clear qh j N H V kc uc x0 x1 HE HU;cases Kb with
 | false=>
  obtain⟨ev,ge⟩:=Hf.x7;clear y0 y1 Hm;go_wp2_with fail;rw [<- Y.out];exact .inr ⟨(fun h=>by cases h.1),⟨_,_,rfl⟩,m.out⟩
 | true=>
  obtain⟨Z,g⟩:=I.out;have Hc:∀v:World,v.heap[ub]? =w1.heap[ub]? ->(Instr.lookup 91 (.map (some ub)) (.agg #[.int .i64 b,.int .i64 i]) true).run Tryz.prog v=.ok (.tuple #[.agg #[],.bool (has Z kl)]) v:=fun v hv=>by
   have ho:v.ownsMap Tryz.prog 75 Qi3 ub acc.length Z:=QbN g.own hv;obtain⟨u,ps,He,hu⟩:=ho.look_ok QaF Tryz.underlying91 (QkZ v) (zd:=.held (.agg #[])) (zp:=[]) rfl s.out;have R:=QeN hu;have Ht:=g.val b i kl s.out;rw [Ht] at R;injection R with R;rw [<- R] at He;exact He
  have Hr:=Hc w1.drew rfl;have M:Below w1.heap.size w1 (w1.alloc (.cells #[] 254)):=zO _ _;have Hn:w.heap.size<w1.heap.size:=Nat.lt_of_lt_of_le zb Hj.out;have Hu:tb<w1.heap.size:=Nat.lt_of_lt_of_le zt Hj.out;have Hv:=(M.cell (p:=⟨w.heap.size,0,none⟩) Hn).trans y0;have Hw:=(M.cell (p:=⟨w.heap.size,1,none⟩) Hn).trans y1;have Hx:=(M.cell (p:=⟨tb,3,none⟩) Hu).trans Hm;have Hh:=Hc (w1.alloc (.cells #[] 254)).drew (M.block ub I.lt);have t:=hid M;clear M;have Ha:∀(v:World) (ty:TypeId),v.heap[ub]? =w1.heap[ub]? ->(Builtin.len_ #[91] ty #[.map (some ub)]).run Tryz.prog v=.ok (.int .i64 (acc.length:Int)) v:=fun v ty hv=>by
   have ho:v.ownsMap Tryz.prog 75 Qi3 ub acc.length Z:=QbN g.own hv;have:=ho.len Tryz.underlying91 ty;rw [g.sz] at this;exact this
  have Hq:=hid Ha;have Hb:=g.has' b i kl s.out;obtain⟨T,hT⟩:∃T,has Z kl=T:=⟨_,rfl⟩;rw [hT] at Hr Hh Hb;have Hd:=hid Hb;clear Hc Hb hT Ha;cases T with
  | true=>
   have Hg:Hid (¬((∀y∈acc,¬(y.r=z.r/\ y.q=z.q))/\ acc.length≠1000)):=hid (fun h=>by
    obtain⟨y,hy,e1,e2⟩:=Hd.1 rfl;exact h.1 y hy ⟨e1.trans A.1.symm,e2.trans A.2.symm⟩)
   have U:=Hf.below (t.mono (Nat.le_trans j m.size));obtain⟨ev,ge⟩:=U.x8;clear U;go_wp2_with fail;go_region;all_goals go_wp2_with fail
   all_goals (rw [<- Y.out];exact .inr ⟨fun h=>Hg.out h.2,⟨_,_,rfl⟩,(Qac m.out t.out).drew⟩)
  | false=>
   have Hi:Hid (∀y∈acc,¬(y.r=z.r/\ y.q=z.q)):=hid (fun y hy e=>by
    have:=Hd.2 ⟨y,hy,e.1.trans A.1,e.2.trans A.2⟩;cases this)
   have Hs:=Hq (w1.alloc (.cells #[] 254)).drew 3 (t.block ub I.lt);by_cases Q:acc.length=1000
   ·have Hg:Hid (¬((∀y∈acc,¬(y.r=z.r/\ y.q=z.q))/\ acc.length≠1000)):=hid (fun h=>h.2 Q);have U:=Hf.below (t.mono (Nat.le_trans j m.size));obtain⟨ev,ge⟩:=U.gM;have dl:((acc.length:Int)==1000)=true:=by rw [Q];rfl
    rw [Q] at Hs;clear U Q;go_wp2_with fail;go_region;all_goals go_wp2_with fail
    all_goals (rw [<- Y.out];exact .inr ⟨fun h=>Hg.out h.2,⟨_,_,rfl⟩,(Qac m.out t.out).drew⟩)
   ·obtain⟨w9,r9,o9,O⟩:=(QbN (w':=(w1.alloc (.cells #[] 254)).drew.drew) g.own (t.block ub I.lt)).update QaF Tryz.underlying91 (by unfold maxLen;omega) s.out (val:=.agg #[]) (d:=.held (.agg #[])) (ps:=[]) rfl;have H9:Hid (UsM w9 ub (acc++[z])/\ w.grownBy w9 (some ub)):=hid ⟨⟨_,g.step (by have:=s.out;rw [<- A.1,<- A.2] at this;exact this) Hi.out o9⟩,by
     have E:=(Qac m.out t.out);exact⟨O.os.trans E.os,O.tape.trans E.tape,O.output.trans E.output,Nat.le_trans E.size O.size,fun k hk hne=>(O.block k (Nat.lt_of_lt_of_le hk E.size) hne).trans (E.block k hk)⟩⟩
    have dl:((acc.length:Int)==1000)=false:=by simp;omega
    have Hp:=hid Q;unfold Qgm at r9;clear o9 O g Q;go_wp2_with fail;go_region;all_goals go_wp2_with fail
    all_goals go_region
    all_goals go_wp2_with fail
    all_goals (rw [<- Y.out];exact .inl ⟨rfl,Hi.out,Hp.out,rfl,H9.1,H9.2⟩)
structure G2 (tb ub:Nat)(w w':World):Prop where
 os:w'.os=w.os
 tape:w'.tape=w.tape
 output:w'.output=w.output
 size:w.heap.size<=w'.heap.size
 block:∀k,k<w.heap.size ->k≠tb ->k≠ub ->w'.heap[k]? =w.heap[k]?
theorem G2.trans {tb ub:Nat}{a b c:World}(h:G2 tb ub a b)(k:G2 tb ub b c):G2 tb ub a c:=
 ⟨k.os.trans h.os,k.tape.trans h.tape,k.output.trans h.output,Nat.le_trans h.size k.size,fun g hg h1 h2=>(k.block g (Nat.lt_of_lt_of_le hg h.size) h1 h2).trans (h.block g hg h1 h2)⟩
theorem G2.below {tb ub:Nat}{w w':World}(h:Below w.heap.size w w'):G2 tb ub w w':=⟨h.os,h.tape,h.output,h.size,fun k hk _ _=>h.block k hk⟩
theorem G2.t {tb ub:Nat}{w w':World}(h:w.grownBy w' (some tb)):G2 tb ub w w':=⟨h.os,h.tape,h.output,h.size,fun k hk h1 _=>h.block k hk (fun e=>h1 (by injection e))⟩
theorem G2.u {tb ub:Nat}{w w':World}(h:w.grownBy w' (some ub)):G2 tb ub w w':=⟨h.os,h.tape,h.output,h.size,fun k hk _ h2=>h.block k hk (fun e=>h2 (by injection e))⟩
theorem G2.cell {tb ub:Nat}{w w':World}(h:G2 tb ub w w'){k i:Nat}(hk:k<w.heap.size)(h1:k≠tb)(h2:k≠ub):w'.cell? ⟨k,i,none⟩=w.cell? ⟨k,i,none⟩:=World.cell?_of_block (a:=⟨k,i,none⟩) (h.block k hk h1 h2)
theorem G2.frozen {tb ub:Nat}{w w':World}(h:G2 tb ub w w'){k i:Nat}(hk:k<w.heap.size)(h1:k≠tb)(h2:k≠ub):w'.frozen? ⟨k,i,none⟩=w.frozen? ⟨k,i,none⟩:=World.frozen?_of_block (a:=⟨k,i,none⟩) (h.block k hk h1 h2)
theorem G2.set {tb ub:Nat}{w w':World}(h:G2 tb ub w w')(q:Addr)(v:Value)(hq:w.heap.size<=q.block):G2 tb ub w (w'.setCell q v):=
 ⟨h.os,h.tape,h.output,by simpa [World.setCell] using h.size,fun k hk h1 h2=>(zH _ _ _ _ (by omega)).trans (h.block k hk h1 h2)⟩
structure TS (w:World)(tb B kb ub bs hi:Nat)(a:Option Addr)(n c:Nat)(f:Nat ->Int)(aT aS aL aE:Addr)(L:Int ->List (Int×Int))(x:Int)(acc:List Lf):Prop where
 cur:Cur (exT kb ub) w tb a n c x
 seg:Seg w a n f
 err:QcQ w B aT aS aL aE
 us:UsM w ub acc
 grp:∃nn D G,Qdt w kb nn D G L/\∀r g,(G r).ownBlock=some g ->bs<=g/\ g<hi
 ab:∀y,a=some y ->y.block≠tb/\ y.block≠ub/\ y.block<hi
 ne:tb≠ub
 bt:B<=tb
 bu:B<=ub
 tl:tb<bs
 ul:ub<bs
 kl:bs<=kb
 kh:kb<hi
section
variable {w w' : World} {tb B kb ub bs hi : Nat} {a : Option Addr} {n c : Nat} {f : Nat -> Int} {aT aS aL aE : Addr} {L : Int -> List (Int × Int)} {x x' : Int} {acc acc' : List Lf}
theorem TS.lt (h:TS w tb B kb ub bs hi a n c f aT aS aL aE L x acc):B<=w.heap.size:=Nat.le_trans h.bt (Nat.le_of_lt h.cur.lt)
theorem TS.t (h:TS w tb B kb ub bs hi a n c f aT aS aL aE L x acc)(g:w.grownBy w' (some tb))(cu:Cur (exT kb ub) w' tb a n c x'):TS w' tb B kb ub bs hi a n c f aT aS aL aE L x' acc:=by
 obtain⟨q,D,G,m,j⟩:=h.grp;refine⟨cu,h.seg.grown g (fun y hy=>(h.ab y hy).1),h.err.grown g h.bt h.cur.lt,h.us.same (g.block ub h.us.lt (fun e=>h.ne (by injection e with e;exact e.symm))),⟨q,D,G,m.gr g (fun e=> ?_) (fun r k hk e=> ?_),j⟩,h.ab,h.ne,h.bt,h.bu,h.tl,h.ul,h.kl,h.kh⟩
 ·injection e with e;have:=h.tl;have:=h.kl;omega
 ·injection e with e;have:=h.tl;have:=(j r k hk).1;omega
theorem TS.u (h:TS w tb B kb ub bs hi a n c f aT aS aL aE L x acc)(g:w.grownBy w' (some ub))(us:UsM w' ub acc'):TS w' tb B kb ub bs hi a n c f aT aS aL aE L x acc':=by
 obtain⟨q,D,G,m,j⟩:=h.grp;refine⟨h.cur.at' (g.block tb h.cur.lt (fun e=>h.ne (by injection e))),h.seg.grown g (fun y hy=>(h.ab y hy).2.1),h.err.grown g h.bu h.us.lt,us,⟨q,D,G,m.gr g (fun e=> ?_) (fun r k hk e=> ?_),j⟩,h.ab,h.ne,h.bt,h.bu,h.tl,h.ul,h.kl,h.kh⟩
 ·injection e with e;have:=h.ul;have:=h.kl;omega
 ·injection e with e;have:=h.ul;have:=(j r k hk).1;omega
theorem TS.below (h:TS w tb B kb ub bs hi a n c f aT aS aL aE L x acc)(hb:Below w.heap.size w w'):TS w' tb B kb ub bs hi a n c f aT aS aL aE L x acc:=by
 obtain⟨m,D,G,j,k⟩:=h.grp;exact⟨h.cur.below hb h.cur.lt,h.seg.below hb,h.err.below (hb.mono h.lt),h.us.same (hb.block ub h.us.lt),⟨m,D,G,j.below hb,k⟩,h.ab,h.ne,h.bt,h.bu,h.tl,h.ul,h.kl,h.kh⟩
theorem TS.setF (h:TS w tb B kb ub bs hi a n c f aT aS aL aE L x acc)(q:Addr)(v:Value)(hq:hi<=q.block):TS (w.setCell q v) tb B kb ub bs hi a n c f aT aS aL aE L x acc:=by
 obtain⟨u,D,G,m,j⟩:=h.grp;have z:=h.tl;have t:=h.ul;have o:=h.kl;have i:=h.kh;have b:=h.bt;have g:w.grownBy (w.setCell q v) (some q.block):=⟨rfl,rfl,rfl,by simp [World.setCell],fun k hk hne=>zH _ _ _ _ (fun e=>hne (by rw [e]))⟩;refine⟨h.cur.at' (zH _ _ _ _ (by omega)),h.seg.grown g (fun y hy=>by have:=(h.ab y hy).2.2;omega),h.err.below ((Below.refl B w).setCell (p:=q) (by omega) v),h.us.same (zH _ _ _ _ (by omega)),⟨u,D,G,m.gr g (fun e=>by injection e with e;omega) (fun r k hk e=>by injection e with e;have:=(j r k hk).2;omega),j⟩,h.ab,h.ne,h.bt,h.bu,h.tl,h.ul,h.kl,h.kh⟩
end
section
variable {w v v' : World} {tb B kb ub bs hi : Nat} {a : Option Addr} {n c : Nat} {f : Nat -> Int} {aT aS aL aE : Addr} {L : Int -> List (Int × Int)} {x x' : Int} {acc acc' : List Lf}
structure RB (v:World)(b:Nat):Prop where
 c0:∃u,v.cell? ⟨b,0,none⟩=some (.int .i64 u)
 c1:∃u,v.cell? ⟨b,1,none⟩=some (.int .i64 u)
 c2:∃u,v.cell? ⟨b+1,0,none⟩=some (.string u)
 f0:∀i,v.frozen? ⟨b,i,none⟩=false
 f1:∀i,v.frozen? ⟨b+1,i,none⟩=false
 lt:b+1<v.heap.size
theorem RB.g2 {b:Nat}(h:RB v b)(g:G2 tb ub v v')(h1:tb<b)(h2:ub<b):RB v' b:=by
 have l:=h.lt;obtain⟨q,j⟩:=h.c0;obtain⟨r,k⟩:=h.c1;obtain⟨u,m⟩:=h.c2;exact⟨⟨q,(g.cell (by omega) (by omega) (by omega)).trans j⟩,⟨r,(g.cell (by omega) (by omega) (by omega)).trans k⟩,⟨u,(g.cell (by omega) (by omega) (by omega)).trans m⟩,fun i=>(g.frozen (by omega) (by omega) (by omega)).trans (h.f0 i),fun i=>(g.frozen (by omega) (by omega) (by omega)).trans (h.f1 i),Nat.lt_of_lt_of_le l g.size⟩
theorem RB.fill {b:Nat}(h:RB v b)(g:G2 tb ub w v)(hb:w.heap.size<=b)(r q:Int)(s:ByteArray):
  ∃Z,Z=((v.setCell ⟨b,0,none⟩ (.int .i64 r)).setCell ⟨b,1,none⟩ (.int .i64 q)).setCell ⟨b+1,0,none⟩ (.string s)/\ Z.cell? ⟨b,0,none⟩=some (.int .i64 r)/\ Z.cell? ⟨b,1,none⟩=some (.int .i64 q)/\ Z.cell? ⟨b+1,0,none⟩=some (.string s)/\ G2 tb ub w Z:=by
 obtain⟨u,j⟩:=h.c0;obtain⟨y,k⟩:=h.c1;obtain⟨z,m⟩:=h.c2;refine⟨_,rfl,?_,?_,?_,((g.set _ _ hb).set _ _ hb).set _ _ (by simp;omega)⟩
 ·rw [World.cell?_setCell_far _ _ _ _ (by simp),World.cell?_setCell_other _ _ _ _ (by simp)];exact World.cell?_setCell_same _ _ _ j
 ·rw [World.cell?_setCell_far _ _ _ _ (by simp)];exact World.cell?_setCell_same _ _ _ (by rw [World.cell?_setCell_other _ _ _ _ (by simp)];exact k)
 ·exact World.cell?_setCell_same _ _ _ (by rw [World.cell?_setCell_far _ _ _ _ (by simp),World.cell?_setCell_far _ _ _ _ (by simp)];exact m)
theorem TS.fill {b:Nat}(t:TS v tb B kb ub bs hi a n c f aT aS aL aE L x acc)(ht:hi<=b)(r q:Int)(s:ByteArray):TS (((v.setCell ⟨b,0,none⟩ (.int .i64 r)).setCell ⟨b,1,none⟩ (.int .i64 q)).setCell ⟨b+1,0,none⟩ (.string s)) tb B kb ub bs hi a n c f aT aS aL aE L x acc:=
 ((t.setF _ _ ht).setF _ _ ht).setF _ _ (by simp;omega)
theorem UsM.swap {z z':Lf}(h:UsM v ub (acc++[z]))(er:z'.r=z.r)(eq:z'.q=z.q):UsM v ub (acc++[z']):=by
 obtain⟨D,h⟩:=h;have u:(acc++[z']).length=(acc++[z]).length:=by simp
 refine⟨D,by rw [u];exact h.own,h.tidy,fun r q kl hk=> ?_,by rw [u];exact h.sz,h.val⟩;rw [h.has' r q kl hk];simp only [List.mem_append,List.mem_singleton];constructor
 ·rintro⟨y,m|rfl,j,k⟩
  ·exact⟨y,.inl m,j,k⟩
  ·exact⟨z',.inr rfl,er.trans j,eq.trans k⟩
 ·rintro⟨y,m|rfl,j,k⟩
  ·exact⟨y,.inl m,j,k⟩
  ·exact⟨z,.inr rfl,er.symm.trans j,eq.symm.trans k⟩
theorem TS.swap {z:Lf}(h:TS v tb B kb ub bs hi a n c f aT aS aL aE L x (acc++[z]))(z':Lf)(er:z'.r=z.r)(eq:z'.q=z.q):TS v tb B kb ub bs hi a n c f aT aS aL aE L x (acc++[z']):=
 ⟨h.cur,h.seg,h.err,h.us.swap er eq,h.grp,h.ab,h.ne,h.bt,h.bu,h.tl,h.ul,h.kl,h.kh⟩
end
theorem Qip (w:World)(c0 c1 c2:Array Value)(t0 t1 t2:TypeId):(∀i,(((w.alloc (.cells c0 t0)).alloc (.cells c1 t1)).alloc (.cells c2 t2)).cell? ⟨w.heap.size,i,none⟩=c0[i]?)/\ (∀i,(((w.alloc (.cells c0 t0)).alloc (.cells c1 t1)).alloc (.cells c2 t2)).cell? ⟨w.heap.size+1,i,none⟩=c1[i]?)/\ (∀i,(((w.alloc (.cells c0 t0)).alloc (.cells c1 t1)).alloc (.cells c2 t2)).cell? ⟨w.heap.size+1+1,i,none⟩=c2[i]?)/\ (∀i,(((w.alloc (.cells c0 t0)).alloc (.cells c1 t1)).alloc (.cells c2 t2)).frozen? ⟨w.heap.size+1,i,none⟩=false)/\ (∀i,(((w.alloc (.cells c0 t0)).alloc (.cells c1 t1)).alloc (.cells c2 t2)).frozen? ⟨w.heap.size+1+1,i,none⟩=false):=by
 refine⟨fun i=> ?_,fun i=> ?_,fun i=> ?_,fun i=> ?_,fun i=> ?_⟩
 ·rw [World.cell?_alloc_past _ _ _ (by simp;omega),World.cell?_alloc_past _ _ _ (by simp),World.cell?_alloc_at _ _ _ _ rfl]
 ·rw [World.cell?_alloc_past _ _ _ (by simp),World.cell?_alloc_at _ _ _ _ (by simp)]
 ·rw [World.cell?_alloc_at _ _ _ _ (by simp)]
 ·rw [World.frozen?_alloc_past _ _ _ (by simp),World.frozen?_alloc_at _ _ _ _ (by simp)]
 ·rw [World.frozen?_alloc_at _ _ _ _ (by simp)]
def LfP (w:World)(tb B kb ub bs hi:Nat)(a:Option Addr)(n c:Nat)(f:Nat ->Int)(aT aS aL aE:Addr)(L:Int ->List (Int×Int))(x:Nat)(acc:List Lf)(kind:Int)(p:List ByteArray)(before:Dt)(e:Ending)(w':World):Prop:=G2 tb ub w w'/\
 ((∃z x',Qeg f n (fun r q=>inB (L r) q q) kind p before acc x=some (z,x')/\ e=.returned (.tuple #[.agg #[.int .i64 z.r,.int .i64 z.q],.agg #[.string z.v],.nilIface])/\ TS w' tb B kb ub bs hi a n c f aT aS aL aE L ((x':Nat):Int) (acc++[z])) \/
  (Qeg f n (fun r q=>inB (L r) q q) kind p before acc x=none/\∃r q s t v,e=.returned (.tuple #[.agg #[.int .i64 r,.int .i64 q],.agg #[.string s],.iface t v])))
theorem QoF (tb B kb ub bs hi:Nat)(a:Option Addr)(n c:Nat)(f:Nat ->Int)(aT aS aL aE:Addr)(L:Int ->List (Int×Int))(x:Nat)(acc:List Lf)(kind:Int)(p:List ByteArray)(br bq:Int)(w:World)(hn:n<=1048576)(hnc:n<=c)(hcc:c<=9223372036854775807)(hf:Byt f)(hk:kind=1 \/kind=2)
  (hT:TS w tb B kb ub bs hi a n c f aT aS aL aE L (x:Int) acc) (hhi:hi<=w.heap.size) (hS:∀r,Srt (L r)/\ (L r).length<=1000000) (hl:acc.length<=1000):
  Calls Tryz.prog 125 #[.pointer (some ⟨tb,0,none⟩),.int .i64 kind,.agg #[.int .i64 br,.int .i64 bq]] w fun e w'=>LfP w tb B kb ub bs hi a n c f aT aS aL aE L x acc kind p (br,bq) e w':=by
 obtain⟨P,hP⟩:∃P,LfP w tb B kb ub bs hi a n c f aT aS aL aE L x acc kind p (br,bq)=P:=⟨_,rfl⟩;rw [hP];have HP:=hid hP;clear hP;obtain⟨W,hW⟩:∃W,((w.alloc (.cells #[.int .i64 br,.int .i64 bq] 75)).alloc (.cells #[.int .i64 0,.int .i64 0] 75)).alloc (.cells #[.string ⟨#[]⟩] 107)=W:=⟨_,rfl⟩;have b0:Below w.heap.size w W:=by rw [<- hW];exact((zO _ _).alloc (by simp) _).alloc (by simp;omega) _
 have zW:W.heap.size=w.heap.size+1+1+1:=by rw [<- hW];simp
 obtain⟨m0,m1,m2,m3,m4⟩:=Qip w #[.int .i64 br,.int .i64 bq] #[.int .i64 0,.int .i64 0] #[.string ⟨#[]⟩] 75 75 107;rw [hW] at m0 m1 m2 m3 m4;have x0:W.cell? ⟨w.heap.size,0,none⟩=some (.int .i64 br):=m0 0;have x1:W.cell? ⟨w.heap.size,1,none⟩=some (.int .i64 bq):=m0 1;have R0:RB W (w.heap.size+1):=⟨⟨0,m1 0⟩,⟨0,m1 1⟩,⟨⟨#[]⟩,m2 0⟩,m3,m4,by omega⟩;clear m0 m1 m2 m3 m4;have T0:=hT.below b0;have H7:tb<w.heap.size:=hT.cur.lt;have Ga:ub<w.heap.size:=hT.us.lt;have HD:=hid (Qpp tb B a n c x f aT aS aL aE W hn hf T0.cur T0.seg (fun y hy=>(hT.ab y hy).1) T0.err hT.bt);have H2:=hid T0;have Ht:=hid R0;have Hs:=hid (G2.below (tb:=tb) (ub:=ub) b0);have HS:=hid hS;have HF:=hid hf;have HZ:=hid zW;have HX:=hid (And.intro x0 x1);have Hy:=hT.bt;clear hT T0 R0 b0 hS hf zW x0 x1;go_enter Tryz.func125,Tryz.ntmps125;go_wp2_with fail;try rw [hW]
 clear hW;have X:tb<w.heap.size+1:=by omega
 have C:ub<w.heap.size+1:=by omega
 refine HD.mono ?_;rintro e w1 ⟨K,⟨r,q,x',j,rfl,N⟩|⟨j,r,q,t,v,y,rfl,N⟩⟩;rotate_left
 ·have HN:Hid (Qeg f n (fun r q=>inB (L r) q q) kind p (br,bq) acc x=none):=hid (by
   unfold rdD at j;unfold Qeg;cases h1:rd f n x 7 with
   | none=>rfl
   | some a1=>
    rw [h1] at j;simp only [Option.bind_some] at j ⊢;cases h2:rd f n a1.2 1000000000 with
    | none=>rfl
    | some a2=>rw [h2] at j;cases j)
  have Hh:=hid (Hs.trans (G2.t K));have Hj:=hid (Ht.g2 (G2.t (ub:=ub) K) X C);have A:Below w1.heap.size w1 (w1.alloc (.cells #[.int .i64 r,.int .i64 q] 75)):=zO _ _;obtain⟨o,Hc⟩:∃o,w1.alloc (.cells #[.int .i64 r,.int .i64 q] 75)=o:=⟨_,rfl⟩;rw [Hc] at A;have Hi:=hid (Hh.trans (G2.below A));have S:=Hj.g2 (G2.below (tb:=tb) (ub:=ub) A) X C;obtain⟨u0,k0⟩:=S.c0;obtain⟨u1,k1⟩:=S.c1;obtain⟨u2,k2⟩:=S.c2;have O:=S.f0;have Q:=S.f1;have Hk:=hid S;clear A K j N S HD;go_wp2_with fail;obtain⟨Z,z,Y,H,I,b⟩:=Hk.fill Hi.out (by omega) 0 0 ⟨#[]⟩;rw [<- z];clear z;refine zF (v:=.tuple #[.agg #[.int .i64 0,.int .i64 0],.agg #[.string ⟨#[]⟩],.iface t v]) (by simp [results,Tryz.results125,go_sem,Y,H,I]) ?_;rw [<- HP.out];exact⟨b,.inr ⟨HN.out,_,_,_,_,_,rfl⟩⟩
 ·have Hr:=hid j;have T1:=H2.t K N;have H9:(r:Int)<=7/\ (q:Int)<=1000000000:=by
   unfold rdD at j;obtain⟨a1,h1,j⟩:=Qab.1 j;obtain⟨a2,h2,j⟩:=Qab.1 j;simp only [Option.some.injEq,Prod.mk.injEq] at j;obtain⟨⟨rfl,rfl⟩,_⟩:=j;exact⟨((Qav HF.out (V:=a1.1) (x':=a1.2)).1 h1).2.1,((Qav HF.out (V:=a2.1) (x':=a2.2)).1 h2).2.1⟩
  have Hh:=hid (Hs.trans (G2.t K));have Hj:=hid (Ht.g2 (G2.t (ub:=ub) K) X C);obtain⟨o,Hc⟩:∃o,w1.alloc (.cells #[.int .i64 (r:Int),.int .i64 (q:Int)] 75)=o:=⟨_,rfl⟩;have A:Below w1.heap.size w1 o:=by rw [<- Hc];exact zO _ _
  have E:o.cell? ⟨w1.heap.size,0,none⟩=some (.int .i64 (r:Int)):=by rw [<- Hc];simp
  have M:o.cell? ⟨w1.heap.size,1,none⟩=some (.int .i64 (q:Int)):=by rw [<- Hc];simp
  have dl:w1.heap.size<o.heap.size:=by rw [<- Hc];simp
  have Gb:w.heap.size+1+1+1<=w1.heap.size:=by have:=K.size;have:=HZ.out;omega
  have Hi:=hid (Hh.trans (G2.below A));have Hk:=hid (Hj.g2 (G2.below (tb:=tb) (ub:=ub) A) X C);have Hu:=hid (T1.below A);have y0:o.cell? ⟨w.heap.size,0,none⟩=some (.int .i64 br):=((G2.t (ub:=ub) K).trans (G2.below A)).cell (by have:=HZ.out;omega) (by omega) (by omega)|>.trans HX.1;have y1:o.cell? ⟨w.heap.size,1,none⟩=some (.int .i64 bq):=((G2.t (ub:=ub) K).trans (G2.below A)).cell (by have:=HZ.out;omega) (by omega) (by omega)|>.trans HX.2;have Hb:=hid (And.intro E M);have Hp:=hid (QdE br bq (r:Int) (q:Int) o);clear K j N T1 A HD Hh Hj;go_wp2_with fail;clear Hc E M y0 y1;refine Hp.mono ?_;rintro e w2 ⟨rfl,T⟩;have He:=hid (Hi.trans (G2.below T));have J:=hid (Hk.g2 (G2.below (tb:=tb) (ub:=ub) T) X C);have i:=hid (Hu.below T);have E:=(T.cell (p:=⟨w1.heap.size,0,none⟩) dl).trans Hb.1;have M:=(T.cell (p:=⟨w1.heap.size,1,none⟩) dl).trans Hb.2;have Hw:=Nat.lt_of_lt_of_le dl T.size;obtain⟨cv,Hl⟩:∃cv,Qlj br bq (r:Int) (q:Int)=cv:=⟨_,rfl⟩;have Hq:=hid Hl;rw [Hl];clear Hp T Hi Hk Hu Hb Hl dl;have Ha:Hid (Qeg f n (fun r q=>inB (L r) q q) kind p (br,bq) acc x=if yes (cv<0/\ inB (L (r:Int)) (q:Int) (q:Int)=true/\ (∀y∈acc,¬(y.r=(r:Int)/\ y.q=(q:Int)))/\ acc.length≠1000)=true then(if kind=2 then some (⟨p,true,(r:Int),(q:Int),ByteArray.empty⟩,x') else(Qcy f n x' 200).bind fun t=>some (⟨p,false,(r:Int),(q:Int),t.1⟩,t.2)) else none):=hid (by
   have j:=Hr.out;unfold rdD at j;obtain⟨a1,h1,j⟩:=Qab.1 j;obtain⟨a2,h2,j⟩:=Qab.1 j;simp only [Option.some.injEq,Prod.mk.injEq] at j;obtain⟨⟨rfl,rfl⟩,rfl⟩:=j;unfold Qeg;rw [h1];simp only [Option.bind_some];rw [h2,<- Hq.out];rfl)
  clear Hr Hq;by_cases Hl:0<=cv
  ·have HN:Hid (Qeg f n (fun r q=>inB (L r) q q) kind p (br,bq) acc x=none):=hid (by rw [Ha.out,Qaj (fun h=>by omega)];rfl);obtain⟨ev,ge⟩:=i.err.gO;obtain⟨u0,k0⟩:=J.c0;obtain⟨u1,k1⟩:=J.c1;obtain⟨u2,k2⟩:=J.c2;have O:=J.f0;have Q:=J.f1;have lo:5<w.heap.size:=Nat.lt_of_lt_of_le (Nat.lt_of_lt_of_le (by decide) i.err.lG) (Nat.le_trans Hy (Nat.le_of_lt H7));have H4:(w2.setCell ⟨w.heap.size+1,0,none⟩ (.int .i64 0)).cell? ⟨5,0,none⟩=some (.iface 270 ev):=by rw [World.cell?_setCell_far _ _ _ _ (by simp;omega)];exact ge
   have H5:((w2.setCell ⟨w.heap.size+1,0,none⟩ (.int .i64 0)).setCell ⟨w.heap.size+1,1,none⟩ (.int .i64 0)).cell? ⟨5,0,none⟩=some (.iface 270 ev):=by rw [World.cell?_setCell_far _ _ _ _ (by simp;omega)];exact H4
   have H8:(((w2.setCell ⟨w.heap.size+1,0,none⟩ (.int .i64 0)).setCell ⟨w.heap.size+1,1,none⟩ (.int .i64 0)).setCell ⟨w.heap.size+1+1,0,none⟩ (.string ⟨#[]⟩)).cell? ⟨5,0,none⟩=some (.iface 270 ev):=by rw [World.cell?_setCell_far _ _ _ _ (by simp;omega)];exact H5
   have Hd:w.heap.size<=w.heap.size+1:=by omega
   clear Ha i E M lo;go_wp2_with fail;go_region;all_goals go_wp2_with fail
   all_goals (
    obtain⟨Z,z,Y,H,I,b⟩:=J.fill He.out Hd 0 0 ⟨#[]⟩;rw [<- z];clear z;refine zF (v:=.tuple #[.agg #[.int .i64 0,.int .i64 0],.agg #[.string ⟨#[]⟩],.iface 270 ev]) (by simp [results,Tryz.results125,go_sem,Y,H,I]) ?_;rw [<- HP.out];exact⟨b.trans (G2.below zI.drew),.inr ⟨HN.out,_,_,_,_,_,rfl⟩⟩)
  ·have Ho:cv<0:=by omega
   obtain⟨nn,D,G,H0,H6⟩:=i.grp;have zr:(Lit.int .i64 (r:Int)).wf=true:=wfI (by omega) (by omega);have zq:(Lit.int .i64 (q:Int)).wf=true:=wfI (by omega) (by omega);have HU:=hid (Qp2 tb B kb ub nn a n c (x':Int) aT aS aL aE D G L acc ⟨p,decide (kind=2),(r:Int),(q:Int),ByteArray.empty⟩ w2 i.cur i.err i.lt i.us H0 HS.out zr zq hl);clear H0 H6 zr zq;have k:=hid (And.intro E (And.intro M Hw));go_wp2_with fail;clear E M Hw;refine HU.mono ?_;clear HU;rintro e w3 (⟨hK,Hz,Hg,rfl,us,g3⟩|⟨hN,⟨t,v,rfl⟩,b3⟩);rotate_left
   ·have HN:Hid (Qeg f n (fun r q=>inB (L r) q q) kind p (br,bq) acc x=none):=hid (by rw [Ha.out,Qaj (fun h=>hN h.2)];rfl);have R:=hid (He.trans (G2.below b3));have m:=hid (J.g2 (G2.below (tb:=tb) (ub:=ub) b3) X C);obtain⟨u0,k0⟩:=m.c0;obtain⟨u1,k1⟩:=m.c1;obtain⟨u2,k2⟩:=m.c2;have O:=m.f0;have Q:=m.f1;have Hd:w.heap.size<=w.heap.size+1:=by omega
    clear Ha i He J hN b3 k;go_wp2_with fail;obtain⟨Z,z,Y,H,I,b⟩:=m.fill R.out Hd 0 0 ⟨#[]⟩;rw [<- z];clear z;refine zF (v:=.tuple #[.agg #[.int .i64 0,.int .i64 0],.agg #[.string ⟨#[]⟩],.iface t v]) (by simp [results,Tryz.results125,go_sem,Y,H,I]) ?_;rw [<- HP.out];exact⟨b,.inr ⟨HN.out,_,_,_,_,_,rfl⟩⟩
   ·have HY:Hid (Qeg f n (fun r q=>inB (L r) q q) kind p (br,bq) acc x=if kind=2 then some (⟨p,true,(r:Int),(q:Int),ByteArray.empty⟩,x') else(Qcy f n x' 200).bind fun t=>some (⟨p,false,(r:Int),(q:Int),t.1⟩,t.2)):=hid (by rw [Ha.out,Qal ⟨Ho,hK,Hz,Hg⟩];rfl);have F:=hid (i.u g3 us);have R:=hid (He.trans (G2.u g3));have m:=hid (J.g2 (G2.u (tb:=tb) g3) X C);have E:w3.cell? ⟨w1.heap.size,0,none⟩=some (.int .i64 (r:Int)):=((G2.u (tb:=tb) g3).cell k.2.2 (by omega) (by omega)).trans k.1;have M:w3.cell? ⟨w1.heap.size,1,none⟩=some (.int .i64 (q:Int)):=((G2.u (tb:=tb) g3).cell k.2.2 (by omega) (by omega)).trans k.2.1;have Hx:w1.heap.size<w3.heap.size:=Nat.lt_of_lt_of_le k.2.2 g3.size;have Hd:w.heap.size<=w.heap.size+1:=by omega
    have H1:hi<=w.heap.size+1:=by omega
    clear Ha i He J hK Hz Hg us g3 k;rcases hk with rfl|rfl
    ·have Hv:=hid (Qok (EX:=exT kb ub) tb B a n c x' 200 f aT aS aL aE w3 hn hnc hcc HF.out F.seg F.cur F.err Hy (fun y hy=>(F.ab y hy).1) (by omega) (by omega));have k:=hid (And.intro E (And.intro M Hx));go_wp2_with fail;clear E M Hx;refine Hv.mono ?_;clear Hv;rintro e w4 ⟨U,⟨s,x2,hs,rfl,N⟩|⟨hs,t,v,y,rfl,N⟩⟩
     ·have Hn:Hid (Qeg f n (fun r q=>inB (L r) q q) 1 p (br,bq) acc x=some (⟨p,false,(r:Int),(q:Int),s⟩,x2)):=hid (by rw [HY.out,if_neg (by decide),hs];rfl);have H3:=hid ((F.t U N).swap ⟨p,false,(r:Int),(q:Int),s⟩ rfl rfl);have Hm:=hid (R.trans (G2.t U));have g:=hid (m.g2 (G2.t (ub:=ub) U) X C);have E:w4.cell? ⟨w1.heap.size,0,none⟩=some (.int .i64 (r:Int)):=((G2.t (ub:=ub) U).cell k.2.2 (by omega) (by omega)).trans k.1;have M:w4.cell? ⟨w1.heap.size,1,none⟩=some (.int .i64 (q:Int)):=((G2.t (ub:=ub) U).cell k.2.2 (by omega) (by omega)).trans k.2.1;obtain⟨u0,k0⟩:=g.c0;obtain⟨u1,k1⟩:=g.c1;obtain⟨u2,k2⟩:=g.c2;have O:=g.f0;have Q:=g.f1;clear HY F R m hs N U k;go_wp2_with fail;obtain⟨Z,z,Y,H,I,b⟩:=g.fill Hm.out Hd (r:Int) (q:Int) s;have Hf:=H3.fill H1 (r:Int) (q:Int) s;rw [<- z] at Hf ⊢;clear z;refine zF (v:=.tuple #[.agg #[.int .i64 (r:Int),.int .i64 (q:Int)],.agg #[.string s],.nilIface]) (by simp [results,Tryz.results125,go_sem,Y,H,I]) ?_;rw [<- HP.out];exact⟨b,.inl ⟨_,_,Hn.out,rfl,Hf⟩⟩
     ·have Hn:Hid (Qeg f n (fun r q=>inB (L r) q q) 1 p (br,bq) acc x=none):=hid (by rw [HY.out,if_neg (by decide),hs];rfl);have Hm:=hid (R.trans (G2.t U));have g:=hid (m.g2 (G2.t (ub:=ub) U) X C);have E:w4.cell? ⟨w1.heap.size,0,none⟩=some (.int .i64 (r:Int)):=((G2.t (ub:=ub) U).cell k.2.2 (by omega) (by omega)).trans k.1;have M:w4.cell? ⟨w1.heap.size,1,none⟩=some (.int .i64 (q:Int)):=((G2.t (ub:=ub) U).cell k.2.2 (by omega) (by omega)).trans k.2.1;obtain⟨u0,k0⟩:=g.c0;obtain⟨u1,k1⟩:=g.c1;obtain⟨u2,k2⟩:=g.c2;have O:=g.f0;have Q:=g.f1;clear HY F R m hs N U k;go_wp2_with fail;obtain⟨Z,z,Y,H,I,b⟩:=g.fill Hm.out Hd (r:Int) (q:Int) ⟨#[]⟩;rw [<- z];clear z;refine zF (v:=.tuple #[.agg #[.int .i64 (r:Int),.int .i64 (q:Int)],.agg #[.string ⟨#[]⟩],.iface t v]) (by simp [results,Tryz.results125,go_sem,Y,H,I]) ?_;rw [<- HP.out];exact⟨b,.inr ⟨Hn.out,_,_,_,_,_,rfl⟩⟩
    ·obtain⟨u0,k0⟩:=m.c0;obtain⟨u1,k1⟩:=m.c1;obtain⟨u2,k2⟩:=m.c2;have O:=m.f0;have Q:=m.f1;go_wp2_with fail;obtain⟨Z,z,Y,H,I,b⟩:=m.fill R.out Hd (r:Int) (q:Int) ⟨#[]⟩;have Hf:=F.fill H1 (r:Int) (q:Int) ⟨#[]⟩;rw [<- z] at Hf ⊢;clear z;refine zF (v:=.tuple #[.agg #[.int .i64 (r:Int),.int .i64 (q:Int)],.agg #[.string ⟨#[]⟩],.nilIface]) (by simp [results,Tryz.results125,go_sem,Y,H,I]) ?_;rw [<- HP.out];exact⟨b,.inl ⟨_,_,HY.out,rfl,Hf⟩⟩
def NxP (EX:Nat ->Option Value)(f:Nat ->Int)(n x:Nat)(cb:Nat)(a:Option Addr)(c:Nat)(w:World)(e:Ending)(w':World):Prop:=w.grownBy w' (some cb)/\
 ((x<n/\ e=.returned (.tuple #[.int .u8 (f x),.nilIface])/\ Cur EX w' cb a n c ((x+1:Nat):Int)) \/
  (¬x<n/\∃(t:TypeId) (v:Value),e=.returned (.tuple #[.int .u8 0,.iface t v])/\ Cur EX w' cb a n c (x:Int)))
theorem QoJ {EX:Nat ->Option Value}(cb B:Nat)(a:Option Addr)(n c x:Nat)(f:Nat ->Int)(aT aS aL aE:Addr)(w:World)(hn:n<=1048576)(hs:Seg w a n f)(hcur:Cur EX w cb a n c (x:Int))(hE:QcQ w B aT aS aL aE):
  Calls Tryz.prog 122 #[.pointer (some ⟨cb,0,none⟩)] w fun e w'=>NxP EX f n x cb a c w e w':=by
 by_cases j:x<n
 ·rcases hs with h|⟨b,off,rfl,q,m⟩
  ·omega
  refine(Qjl cb b off n c x (f x) w hn hcur j (m x j)).mono ?_;rintro e w' ⟨rfl,k,g⟩;exact⟨g,.inl ⟨j,rfl,k⟩⟩
 ·refine(Qfl cb a n c (x:Int) aE w hn hcur (.inr (by omega)) hE.gE).mono ?_;rintro e w' ⟨rfl,b⟩;exact⟨Qag ⟨rfl,rfl,rfl,Nat.le_refl _,fun _ _ _=>rfl⟩ b,.inr ⟨j,_,_,rfl,hcur.below b hcur.lt⟩⟩
noncomputable def Qiu (f:Nat ->Int)(n x:Nat):Option (Ky×Nat):=(Qcy f n x 40).bind fun a=>if yes (a.1.size≠0/\ a.2<n)=true then some ((a.1,f a.2),a.2+1) else none
theorem Qjx (f:Nat ->Int)(n:Nat)(before:Ky)(x:Nat):Qf9 f n before x=(Qiu f n x).bind fun a=>if yes (QbA before a.1<0)=true then some a else none:=by
 unfold Qf9 Qiu;cases h:Qcy f n x 40 with
 | none=>rfl
 | some a=>
  simp only [Option.bind_some];by_cases j:a.1.size≠0/\ a.2<n
  ·rw [Qal j];simp only [if_true,Option.bind_some];by_cases k:QbA before (a.1,f a.2)<0
   ·rw [Qal k,Qal ⟨j.1,j.2,k⟩]
   ·rw [Qaj k,Qaj (fun h=>k h.2.2)]
  ·rw [Qaj j,Qaj (fun h=>j ⟨h.1,h.2.1⟩)];rfl
structure KB (v:World)(b:Nat):Prop where
 c0:∃u,v.cell? ⟨b,0,none⟩=some (.string u)
 c1:∃u,v.cell? ⟨b,1,none⟩=some (.int .i64 u)
 f0:∀i,v.frozen? ⟨b,i,none⟩=false
 lt:b<v.heap.size
section
variable {w v v' : World} {tb B : Nat}
theorem KB.made (w:World)(u:ByteArray)(i:Int)(t:TypeId):KB (w.alloc (.cells #[.string u,.int .i64 i] t)) w.heap.size:=
 ⟨⟨u,by simp⟩,⟨i,by simp⟩,fun i=>by rw [World.frozen?_alloc_at _ _ _ _ rfl],by simp⟩
theorem KB.gr {b:Nat}(h:KB v b)(g:v.grownBy v' (some tb))(h1:b≠tb):KB v' b:=by
 have l:=h.lt;have e:=g.block b l (fun e=>h1 (by injection e));obtain⟨m,j⟩:=h.c0;obtain⟨q,k⟩:=h.c1;exact⟨⟨m,(World.cell?_of_block (a:=⟨b,0,none⟩) e).trans j⟩,⟨q,(World.cell?_of_block (a:=⟨b,1,none⟩) e).trans k⟩,fun i=>(World.frozen?_of_block (a:=⟨b,i,none⟩) e).trans (h.f0 i),Nat.lt_of_lt_of_le l g.size⟩
theorem KB.fill {b:Nat}(h:KB v b)(g:w.grownBy v (some tb))(hb:w.heap.size<=b)(s:ByteArray)(i:Int):
  ∃Z,Z=(v.setCell ⟨b,0,none⟩ (.string s)).setCell ⟨b,1,none⟩ (.int .i64 i)/\ Z.cell? ⟨b,0,none⟩=some (.string s)/\ Z.cell? ⟨b,1,none⟩=some (.int .i64 i)/\ w.grownBy Z (some tb)/\∀k,k≠b ->Z.heap[k]? =v.heap[k]? :=by
 obtain⟨r,m⟩:=h.c0;obtain⟨u,q⟩:=h.c1;have j:∀k,k≠b ->((v.setCell ⟨b,0,none⟩ (.string s)).setCell ⟨b,1,none⟩ (.int .i64 i)).heap[k]? =v.heap[k]? :=fun k hk=>(zH _ _ _ _ (by simp;omega)).trans (zH _ _ _ _ (by simp;omega));refine⟨_,rfl,?_,?_,⟨g.os,g.tape,g.output,by simpa [World.setCell] using g.size,fun k hk hne=>(j k (by omega)).trans (g.block k hk hne)⟩,j⟩
 ·rw [World.cell?_setCell_other _ _ _ _ (by simp)];exact World.cell?_setCell_same _ _ _ m
 ·exact World.cell?_setCell_same _ _ _ (by rw [World.cell?_setCell_other _ _ _ _ (by simp)];exact q)
end
def NkP (EX:Nat ->Option Value)(f:Nat ->Int)(n x:Nat)(cb:Nat)(a:Option Addr)(c:Nat)(w:World)(e:Ending)(w':World):Prop:=w.grownBy w' (some cb)/\
 ((∃y x',Qiu f n x=some (y,x')/\ e=.returned (.tuple #[.agg #[.string y.1,.int .i64 y.2],.nilIface])/\ Cur EX w' cb a n c ((x':Nat):Int)) \/
  (Qiu f n x=none/\∃(t:TypeId) (v:Value) (y:Int),e=.returned (.tuple #[.agg #[.string ⟨#[]⟩,.int .i64 0],.iface t v])/\ Cur EX w' cb a n c y))
theorem QfU {EX:Nat ->Option Value}(tb B:Nat)(a:Option Addr)(n c:Nat)(f:Nat ->Int)(aT aS aL aE:Addr)(x:Nat)(w:World)(hn:n<=1048576)(hnc:n<=c)(hcc:c<=9223372036854775807)(hf:Byt f)
  (i:Seg w a n f) (hcur:Cur EX w tb a n c (x:Int)) (hE:QcQ w B aT aS aL aE) (hbt:B<=tb) (hab:∀y,a=some y ->y.block≠tb):
  Calls Tryz.prog 99 #[.pointer (some ⟨tb,0,none⟩)] w fun e w'=>NkP EX f n x tb a c w e w':=by
 obtain⟨P,hP⟩:∃P,NkP EX f n x tb a c w=P:=⟨_,rfl⟩;rw [hP];have J:=hid hP;clear hP;obtain⟨W,X⟩:∃W,w.alloc (.cells #[.string ⟨#[]⟩,.int .i64 0] 113)=W:=⟨_,rfl⟩;have u:Below w.heap.size w W:=by rw [<- X];exact zO _ _
 have K:Hid (KB W w.heap.size):=hid (by rw [<- X];exact KB.made _ _ _ _);have Ha:=hcur.lt;have I:Hid (w.grownBy W (some tb)):=hid ⟨u.os,u.tape,u.output,u.size,fun k hk _=>u.block k hk⟩;have G:=hid (hcur.below u hcur.lt);have L:=hid (i.below u);have H:=hid (hE.below (u.mono (Nat.le_trans hbt (Nat.le_of_lt Ha))));have HT:=hid (Qok (EX:=EX) tb B a n c x 40 f aT aS aL aE W hn hnc hcc hf L.out G.out H.out hbt hab (by omega) (by omega));have HF:=hid hf;have z:w.heap.size≠tb:=by omega
 have C:w.heap.size<=w.heap.size:=Nat.le_refl _;clear i hcur hE hf u;go_enter Tryz.func99,Tryz.ntmps99;go_wp2_with fail;try rw [X]
 clear X;refine HT.mono ?_;clear HT;rintro e w1 ⟨o,⟨s,U,i,rfl,m⟩|⟨i,t,v,y,rfl,m⟩⟩
 ·have p:=hid (I.trans o);have j:=hid (K.gr o z);have b:=hid m;have V:=hid (H.grown o hbt G.lt);have R:=hid (L.grown o hab);have S:=hid i;clear o i m I K G L H;by_cases N:s=⟨#[]⟩
  ·subst N;have Y:Hid (Qiu f n x=none):=hid (by unfold Qiu;rw [S.out];simp only [Option.bind_some];rw [Qaj (fun h=>h.1 rfl)];rfl);obtain⟨T,ge⟩:=V.x2;have lo:7<w.heap.size:=Nat.lt_of_lt_of_le (Nat.lt_of_lt_of_le (by decide) V.lG) (Nat.le_trans hbt (Nat.le_of_lt Ha));obtain⟨u0,k0⟩:=j.c0;obtain⟨u1,k1⟩:=j.c1;have A:=j.f0;have Hb:(w1.setCell ⟨w.heap.size,0,none⟩ (.string ⟨#[]⟩)).cell? ⟨7,0,none⟩=some (.iface 270 T):=by rw [World.cell?_setCell_far _ _ _ _ (by simp;omega)];exact ge
   have Hf:((w1.setCell ⟨w.heap.size,0,none⟩ (.string ⟨#[]⟩)).setCell ⟨w.heap.size,1,none⟩ (.int .i64 0)).cell? ⟨7,0,none⟩=some (.iface 270 T):=by rw [World.cell?_setCell_far _ _ _ _ (by simp;omega)];exact Hb
   clear lo;go_wp2_with fail;go_region;all_goals go_wp2_with fail
   all_goals (
    obtain⟨Z,q,M,O,E,g⟩:=j.fill p.out C ⟨#[]⟩ 0;rw [<- q];clear q;refine zF (v:=.tuple #[.agg #[.string ⟨#[]⟩,.int .i64 0],.iface 270 T]) (by simp [results,Tryz.results99,go_sem,M,O]) ?_;rw [<- J.out];exact⟨Qag E zI.drew,.inr ⟨Y.out,_,_,_,rfl,(b.at' (g tb (Ne.symm z))).below zI.drew (b.at' (g tb (Ne.symm z))).lt⟩⟩)
  ·have Hc:s.toList.isEmpty=false:=by
    cases e:s.toList.isEmpty with
    | false=>rfl
    | true=>exact absurd (QdG.1 e) N
   have HX:=hid (QoJ (EX:=EX) tb B a n c U f aT aS aL aE w1 hn R.out b.out V.out);have hz:s.size≠0:=fun e=>N (by
    obtain⟨d⟩:=s;have:d=#[]:=Array.eq_empty_of_size_eq_zero e;rw [this])
   go_wp2_with fail;refine HX.mono ?_;clear HX Hc N;rintro e w2 ⟨Q,⟨hx,rfl,m⟩|⟨hx,t,v,rfl,m⟩⟩
   ·have HY:Hid (Qiu f n x=some ((s,f U),U+1)):=hid (by unfold Qiu;rw [S.out];simp only [Option.bind_some];rw [Qal ⟨hz,hx⟩];rfl);have F:=hid (p.trans Q);have r:=hid (j.gr Q z);have D:=hid m;obtain⟨u0,k0⟩:=r.c0;obtain⟨u1,k1⟩:=r.c1;have A:=r.f0;obtain⟨Hd,He⟩:=HF U;clear Q m p j b R V;go_wp2_with fail;obtain⟨Z,q,M,O,E,g⟩:=r.fill F.out C s (f U);try rw [<- q]
    clear q;refine zF (v:=.tuple #[.agg #[.string s,.int .i64 (f U)],.nilIface]) (by simp [results,Tryz.results99,go_sem,M,O]) ?_;rw [<- J.out];exact⟨E,.inl ⟨_,_,HY.out,rfl,D.at' (g tb (Ne.symm z))⟩⟩
   ·have Y:Hid (Qiu f n x=none):=hid (by unfold Qiu;rw [S.out];simp only [Option.bind_some];rw [Qaj (fun h=>hx h.2)];rfl);have F:=hid (p.trans Q);have r:=hid (j.gr Q z);have D:=hid m;obtain⟨u0,k0⟩:=r.c0;obtain⟨u1,k1⟩:=r.c1;have A:=r.f0;clear Q m p j b R V;go_wp2_with fail;obtain⟨Z,q,M,O,E,g⟩:=r.fill F.out C ⟨#[]⟩ 0;rw [<- q];clear q;refine zF (v:=.tuple #[.agg #[.string ⟨#[]⟩,.int .i64 0],.iface t v]) (by simp [results,Tryz.results99,go_sem,M,O]) ?_;rw [<- J.out];exact⟨E,.inr ⟨Y.out,_,_,_,rfl,D.at' (g tb (Ne.symm z))⟩⟩
 ·have Y:Hid (Qiu f n x=none):=hid (by unfold Qiu;rw [i];rfl);have p:=hid (I.trans o);have j:=hid (K.gr o z);have b:=hid m;obtain⟨u0,k0⟩:=j.c0;obtain⟨u1,k1⟩:=j.c1;have A:=j.f0;clear o i m I K G L H;go_wp2_with fail;obtain⟨Z,q,M,O,E,g⟩:=j.fill p.out C ⟨#[]⟩ 0;rw [<- q];clear q;refine zF (v:=.tuple #[.agg #[.string ⟨#[]⟩,.int .i64 0],.iface t v]) (by simp [results,Tryz.results99,go_sem,M,O]) ?_;rw [<- J.out];exact⟨E,.inr ⟨Y.out,_,_,_,rfl,b.at' (g tb (Ne.symm z))⟩⟩
theorem QfI (x y:Ky)(w:World):Calls Tryz.prog 77 #[.agg #[.string x.1,.int .i64 x.2],.agg #[.string y.1,.int .i64 y.2]] w fun e w'=>e=.returned (.int .i64 (QbA x y))/\ Bw w w':=by
 obtain⟨s,k⟩:=x;obtain⟨q,m⟩:=y;dsimp only;obtain⟨W,u⟩:∃W,(w.alloc (.cells #[.string s,.int .i64 k] 113)).alloc (.cells #[.string q,.int .i64 m] 113)=W:=⟨_,rfl⟩;have b:Bw w W:=by rw [<- u];exact⟨Qak _ _ _,Nat.le_refl _⟩
 have t:Bx2 W w.heap.size (.string s) (.int .i64 k):=by rw [<- u];exact(Bx2.made w _ _ _).allocs _
 have o:Bx2 W (w.heap.size+1) (.string q) (.int .i64 m):=by rw [<- u];simpa using Bx2.made (w.alloc (.cells #[.string s,.int .i64 k] 113)) (.string q) (.int .i64 m) 113
 have v:=hid b;have h:=hid t;have g:=hid o;clear b t o;go_enter Tryz.func77,Tryz.ntmps77;go_wp2_with fail;try rw [u]
 clear u;have z:Hid (∀w',Bw W w' ->(Bw W w'/\ w'.cell? ⟨w.heap.size,0,none⟩=some (.string s)/\ w'.cell? ⟨w.heap.size,1,none⟩=some (.int .i64 k)/\ w'.cell? ⟨w.heap.size+1,0,none⟩=some (.string q)/\ w'.cell? ⟨w.heap.size+1,1,none⟩=some (.int .i64 m))):=hid (fun w' r=>by
  have x0:=h.below r.1 h.lt;have p:=g.below r.1 g.lt;exact⟨r,x0.c0,x0.c1,p.c0,p.c1⟩)
 refine zR (S:=fun w'=>Bw W w'/\ w'.cell? ⟨w.heap.size,0,none⟩=some (.string s)/\ w'.cell? ⟨w.heap.size,1,none⟩=some (.int .i64 k)/\ w'.cell? ⟨w.heap.size+1,0,none⟩=some (.string q)/\ w'.cell? ⟨w.heap.size+1,1,none⟩=some (.int .i64 m)) (z _ ⟨zI.drew,Nat.le_succ _⟩) (fun qh=> ?_);refine tZ 0 5 ?_;refine tZ 1 6 ?_;refine tZ 2 7 ?_;refine tZ 3 8 ?_;refine tZ 5 10 ?_;refine tZ 6 11 ?_;refine tZ 7 12 ?_;refine tZ 8 13 ?_;refine cZ 4 ?_;intro K j;go_simp;refine(QiC s q _).mono ?_;rintro e w1 ⟨rfl,rfl⟩;refine j.out _ _ qh (fun qh=> ?_);clear j K;try simp only [zP]
 refine cZ 9 ?_;intro K j;go_simp;refine(QbZ k m _).mono ?_;rintro e E ⟨rfl,rfl⟩;refine j.out _ _ qh (fun qh=> ?_);clear j K;try simp only [zP]
 refine cZ 10 ?_;intro K j;go_simp;have r:Bw W (W.drew.alloc (.cells #[.int .i64 (QbH s q),.int .i64 (QaV k m)] 3)):=⟨qh.1.1.alloc qh.1.1.size _,qh.1.2⟩;refine j.out _ _ (z _ r) (fun qh=> ?_);clear j K;try simp only [zP]
 refine cZ 11 ?_;intro K j;go_simp;refine(QiA _ 2 2 (fun i=>if i=0 then QbH s q else QaV k m) _ (by omega) (fun i hi=> ?_)).mono ?_
 ·match i,hi with
  | 0,_=>simp
  | 1,_=>simp
 rintro e M ⟨rfl,rfl⟩;refine j.out _ _ qh (fun qh=> ?_);clear j K;try simp only [zP]
 refine tZ 12 4 ?_;refine zD ?_;have A:Hid (Bw w (W.drew.alloc (.cells #[.int .i64 (QbH s q),.int .i64 (QaV k m)] 3))):=hid ⟨v.1.trans (qh.1.1.mono v.1.size),Nat.le_trans v.2 qh.1.2⟩;clear qh r;go_wp2_with fail;go_ret;exact⟨QbE nz2,A.out⟩
def KyP (EX:Nat ->Option Value)(f:Nat ->Int)(n x:Nat)(before:Ky)(cb:Nat)(a:Option Addr)(c:Nat)(w:World)(e:Ending)(w':World):Prop:=w.grownBy w' (some cb)/\
 ((∃y x',Qf9 f n before x=some (y,x')/\ e=.returned (.tuple #[.agg #[.string y.1,.int .i64 y.2],.nilIface])/\ Cur EX w' cb a n c ((x':Nat):Int)) \/
  (Qf9 f n before x=none/\∃(t:TypeId) (v:Value),e=.returned (.tuple #[.agg #[.string ⟨#[]⟩,.int .i64 0],.iface t v])))
theorem Qpv {EX:Nat ->Option Value}(tb B:Nat)(a:Option Addr)(n c:Nat)(f:Nat ->Int)(aT aS aL aE:Addr)(x:Nat)(bs:ByteArray)(bk:Int)(w:World)(hn:n<=1048576)(hnc:n<=c)(hcc:c<=9223372036854775807)(hf:Byt f)
  (g:Seg w a n f) (hcur:Cur EX w tb a n c (x:Int)) (hE:QcQ w B aT aS aL aE) (hbt:B<=tb) (hab:∀y,a=some y ->y.block≠tb):
  Calls Tryz.prog 70 #[.pointer (some ⟨tb,0,none⟩),.agg #[.string bs,.int .i64 bk]] w fun e w'=>KyP EX f n x (bs,bk) tb a c w e w':=by
 obtain⟨P,hP⟩:∃P,KyP EX f n x (bs,bk) tb a c w=P:=⟨_,rfl⟩;rw [hP];have S:=hid hP;clear hP;obtain⟨W,E⟩:∃W,(w.alloc (.cells #[.string bs,.int .i64 bk] 113)).alloc (.cells #[.string ⟨#[]⟩,.int .i64 0] 113)=W:=⟨_,rfl⟩;have r:Below w.heap.size w W:=by rw [<- E];exact Qak _ _ _
 have zW:W.heap.size=w.heap.size+1+1:=by rw [<- E];simp
 have X0:Bx2 W w.heap.size (.string bs) (.int .i64 bk):=by rw [<- E];exact(Bx2.made w _ _ _).allocs _
 have N:Hid (KB W (w.heap.size+1)):=hid (by rw [<- E];simpa using KB.made (w.alloc (.cells #[.string bs,.int .i64 bk] 113)) ⟨#[]⟩ 0 113);have Hi:=hcur.lt;have L:Hid (w.grownBy W (some tb)):=hid ⟨r.os,r.tape,r.output,r.size,fun k hk _=>r.block k hk⟩;have M:=hid (hcur.below r hcur.lt);have T:=hid (g.below r);have K:=hid (hE.below (r.mono (Nat.le_trans hbt (Nat.le_of_lt Hi))));have HT:=hid (QfU (EX:=EX) tb B a n c f aT aS aL aE x W hn hnc hcc hf T.out M.out K.out hbt hab);have Hj:=M.2.1;have b:=hid X0;have HZ:=hid zW;have H:w.heap.size+1≠tb:=by omega
 have Hb:w.heap.size≠tb:=by omega
 have Hc:w.heap.size<=w.heap.size+1:=by omega
 clear g hcur hE hf r X0 zW;go_enter Tryz.func70,Tryz.ntmps70;go_wp2_with fail;try rw [E]
 clear E Hj;refine HT.mono ?_;clear HT;rintro e w1 ⟨A,⟨y,x1,g,rfl,V⟩|⟨g,t,v,y,rfl,V⟩⟩
 ·have U:Hid (Qf9 f n (bs,bk) x=if yes (QbA (bs,bk) y<0)=true then some (y,x1) else none):=hid (by rw [Qjx,g];rfl);obtain⟨s,k⟩:=y;dsimp only;obtain⟨p,Ha⟩:∃p,w1.alloc (.cells #[.string s,.int .i64 k] 113)=p:=⟨_,rfl⟩;have j:Below w1.heap.size w1 p:=by rw [<- Ha];exact zO _ _
  have z:=Qag A j;have o:=hid (L.trans z);have m:=hid (N.gr z H);have C:Bx2 p w1.heap.size (.string s) (.int .i64 k):=by rw [<- Ha];exact Bx2.made _ _ _ _
  have Hg:=HZ.out;have Hh:=A.size;have X1:Bx2 p w.heap.size (.string bs) (.int .i64 bk):=by
   have e:=z.block w.heap.size (by omega) (fun e=>Hb (by injection e));exact⟨(World.cell?_of_block (a:=⟨w.heap.size,0,none⟩) e).trans b.c0,(World.cell?_of_block (a:=⟨w.heap.size,1,none⟩) e).trans b.c1,fun i=>(World.frozen?_of_block (a:=⟨w.heap.size,i,none⟩) e).trans (b.f i),Nat.lt_of_lt_of_le b.lt z.size⟩
  have O:=hid (V.below j V.lt);have Hd:=hid ((K.grown A hbt M.lt).below (j.mono (by omega)));have HK:=hid (QfI (bs,bk) (s,k) p);have y0:=C.c0;have y1:=C.c1;have z0:=X1.c0;have z1:=X1.c1;have X:=hid C;clear A z g V L N M T K b j C X1 Hg Hh;go_wp2_with fail;clear Ha y0 y1 z0 z1;refine HK.mono ?_;rintro e D ⟨rfl,u,_⟩;obtain⟨cv,He⟩:∃cv,QbA (bs,bk) (s,k)=cv:=⟨_,rfl⟩;rw [He] at U ⊢;have F:=hid (Hd.below (u.mono (Nat.le_trans hbt (Nat.le_of_lt O.lt))));clear HK He Hd;by_cases hc:0<=cv
  ·have Q:Hid (Qf9 f n (bs,bk) x=none):=hid (by rw [U.out,Qaj (by omega)];rfl);obtain⟨ev,ge⟩:=F.gO;have j:Below D.heap.size D (D.alloc (.cells #[.string ⟨#[107,101,121]⟩,.int .i64 (x:Int),.iface 270 ev] 100)):=zO _ _;have R:=hid (Qag (Qag o.out u) j);have q:=hid (m.gr (Qag (Qag ⟨rfl,rfl,rfl,Nat.le_refl _,fun _ _ _=>rfl⟩ u) j) H);obtain⟨u0,k0⟩:=q.c0;obtain⟨u1,k1⟩:=q.c1;have Y:=q.f0;clear o m O X F U j u;go_wp2_with fail;obtain⟨Z,h,I,J,G,bZ⟩:=q.fill R.out Hc ⟨#[]⟩ 0;rw [<- h];clear h;refine zF (v:=.tuple #[.agg #[.string ⟨#[]⟩,.int .i64 0],.iface 98 (.pointer (some ⟨D.heap.size,0,none⟩))]) (by simp [results,Tryz.results70,go_sem,I,J]) ?_;rw [<- S.out];exact⟨G,.inr ⟨Q.out,_,_,rfl⟩⟩
  ·have Q:Hid (Qf9 f n (bs,bk) x=some ((s,k),x1)):=hid (by rw [U.out,Qal (by omega)];rfl);have R:=hid (Qag o.out u);have q:=hid (m.gr (tb:=tb) (Qag ⟨rfl,rfl,rfl,Nat.le_refl _,fun _ _ _=>rfl⟩ u) H);have Hf:=hid (O.below u O.lt);have Y3:=X.below u X.lt;have y0:=Y3.c0;have y1:=Y3.c1;obtain⟨u0,k0⟩:=q.c0;obtain⟨u1,k1⟩:=q.c1;have Y:=q.f0;clear o m O X F U u Y3;go_wp2_with fail;obtain⟨Z,h,I,J,G,bZ⟩:=q.fill R.out Hc s k;rw [<- h];clear h;refine zF (v:=.tuple #[.agg #[.string s,.int .i64 k],.nilIface]) (by simp [results,Tryz.results70,go_sem,I,J]) ?_;rw [<- S.out];exact⟨G,.inl ⟨_,_,Q.out,rfl,Hf.at' (bZ tb (Ne.symm H))⟩⟩
 ·have Q:Hid (Qf9 f n (bs,bk) x=none):=hid (by rw [Qjx,g];rfl);have j:Below w1.heap.size w1 ((w1.alloc (.cells #[.string ⟨#[]⟩,.int .i64 0] 113)).alloc (.cells #[.string ⟨#[107,101,121]⟩,.int .i64 (x:Int),.iface t v] 100)):=Qak _ _ _;have z:=Qag A j;have o:=hid (L.trans z);have m:=hid (N.gr z H);obtain⟨u0,k0⟩:=m.c0;obtain⟨u1,k1⟩:=m.c1;have Y:=m.f0;clear A z g V L N M T K b j;go_wp2_with fail;obtain⟨Z,h,I,J,G,bZ⟩:=m.fill o.out Hc ⟨#[]⟩ 0;rw [<- h];clear h;refine zF (v:=.tuple #[.agg #[.string ⟨#[]⟩,.int .i64 0],.iface 98 (.pointer (some ⟨w1.heap.size+1,0,none⟩))]) (by simp [results,Tryz.results70,go_sem,I,J]) ?_;rw [<- S.out];exact⟨G,.inr ⟨Q.out,_,_,rfl⟩⟩
section
variable {w w' v v' : World} {tb B kb ub bs hi : Nat} {a : Option Addr} {n c : Nat} {f : Nat -> Int} {aT aS aL aE : Addr} {L : Int -> List (Int × Int)} {x x' : Int} {acc acc' : List Lf}
theorem TS.gr (h:TS w tb B kb ub bs hi a n c f aT aS aL aE L x acc){b:Nat}(g:w.grownBy w' (some b))(hb:hi<=b):TS w' tb B kb ub bs hi a n c f aT aS aL aE L x acc:=by
 obtain⟨u,D,G,m,j⟩:=h.grp;have v:=h.tl;have z:=h.ul;have t:=h.kl;have o:=h.kh;have i:=h.bt;have q:Below B w w':=⟨g.os,g.tape,g.output,g.size,fun k hk=>g.block k (by have:=h.lt;omega) (fun e=>by injection e with e;omega)⟩;exact⟨h.cur.at' (g.block tb h.cur.lt (fun e=>by injection e with e;omega)),h.seg.grown g (fun y hy=>by have:=(h.ab y hy).2.2;omega),h.err.below q,h.us.same (g.block ub h.us.lt (fun e=>by injection e with e;omega)),⟨u,D,G,m.gr g (fun e=>by injection e with e;omega) (fun r k hk e=>by injection e with e;have:=(j r k hk).2;omega),j⟩,h.ab,h.ne,h.bt,h.bu,h.tl,h.ul,h.kl,h.kh⟩
theorem G2.gr (h:G2 tb ub w v){b:Nat}(g:v.grownBy v' (some b))(hb:w.heap.size<=b):G2 tb ub w v':=
 ⟨g.os.trans h.os,g.tape.trans h.tape,g.output.trans h.output,Nat.le_trans h.size g.size,fun k hk h1 h2=>(g.block k (Nat.lt_of_lt_of_le hk h.size) (fun e=>by injection e with e;omega)).trans (h.block k hk h1 h2)⟩
structure NB (v:World)(b:Nat):Prop where
 c0:∃u,v.cell? ⟨b,0,none⟩=some (.map u)
 c1:∃u,v.cell? ⟨b,1,none⟩=some (.map u)
 f0:∀i,v.frozen? ⟨b,i,none⟩=false
 lt:b<v.heap.size
theorem NB.made (w:World)(t:TypeId):NB (w.alloc (.cells #[.map none,.map none] t)) w.heap.size:=
 ⟨⟨none,by simp⟩,⟨none,by simp⟩,fun i=>by rw [World.frozen?_alloc_at _ _ _ _ rfl],by simp⟩
theorem NB.same {b:Nat}(h:NB v b)(e:v'.heap[b]? =v.heap[b]?)(hz:v.heap.size<=v'.heap.size):NB v' b:=by
 obtain⟨m,j⟩:=h.c0;obtain⟨q,k⟩:=h.c1;exact⟨⟨m,(World.cell?_of_block (a:=⟨b,0,none⟩) e).trans j⟩,⟨q,(World.cell?_of_block (a:=⟨b,1,none⟩) e).trans k⟩,fun i=>(World.frozen?_of_block (a:=⟨b,i,none⟩) e).trans (h.f0 i),Nat.lt_of_lt_of_le h.lt hz⟩
theorem NB.g2 {b:Nat}(h:NB v b)(g:G2 tb ub v v')(h1:b≠tb)(h2:b≠ub):NB v' b:=h.same (g.block b h.lt h1 h2) g.size
theorem NB.fill {b:Nat}(h:NB v b)(g:G2 tb ub w v)(hb:w.heap.size<=b)(s s':Option Nat):
  ∃Z,Z=(v.setCell ⟨b,0,none⟩ (.map s)).setCell ⟨b,1,none⟩ (.map s')/\ Z.cell? ⟨b,0,none⟩=some (.map s)/\ Z.cell? ⟨b,1,none⟩=some (.map s')/\ G2 tb ub w Z/\ (∀k,k≠b ->Z.heap[k]? =v.heap[k]?)/\ v.grownBy Z (some b):=by
 obtain⟨r,m⟩:=h.c0;obtain⟨u,q⟩:=h.c1;have j:∀k,k≠b ->((v.setCell ⟨b,0,none⟩ (.map s)).setCell ⟨b,1,none⟩ (.map s')).heap[k]? =v.heap[k]? :=fun k hk=>(zH _ _ _ _ (by simp;omega)).trans (zH _ _ _ _ (by simp;omega));refine⟨_,rfl,?_,?_,(g.set _ _ hb).set _ _ hb,j,⟨rfl,rfl,rfl,by simp [World.setCell],fun k hk hne=>j k (fun e=>hne (by rw [e]))⟩⟩
 ·rw [World.cell?_setCell_other _ _ _ _ (by simp)];exact World.cell?_setCell_same _ _ _ m
 ·exact World.cell?_setCell_same _ _ _ (by rw [World.cell?_setCell_other _ _ _ _ (by simp)];exact q)
end
noncomputable def lsM (l:List Lf):Dt ->Option ByteArray:=l.foldl (fun g z=>QeJ g (z.r,z.q) (some z.v)) (fun _=>none)
theorem QmD (l:List Lf)(z:Lf):lsM (l++[z])=QeJ (lsM l) (z.r,z.q) (some z.v):=by simp [lsM]
noncomputable def QgQ (f:Nat ->Int)(n:Nat)(K:Int ->Int ->Bool)(kind:Int)(p:List ByteArray)(acc:List Lf)(x:Nat):Option (List Lf×Nat):=(rd f n x 1000).bind fun a=>if a.1=0 then none else QgP f n K kind p a.1 (0,0) acc a.2
def LvP (w:World)(tb B kb ub bs hi:Nat)(a:Option Addr)(n c:Nat)(f:Nat ->Int)(aT aS aL aE:Addr)(L:Int ->List (Int×Int))(x:Nat)(acc:List Lf)(kind:Int)(p:List ByteArray)(e:Ending)(w':World):Prop:=G2 tb ub w w'/\
 ((∃(l:List Lf) (x' s s':Nat),QgQ f n (fun r q=>inB (L r) q q) kind p acc x=some (acc++l,x')/\ e=.returned (.tuple #[.agg #[.map (some s),.map (some s')],.nilIface])/\ TS w' tb B kb ub bs hi a n c f aT aS aL aE L ((x':Nat):Int) (acc++l)/\ (acc++l).length<=1000/\
   s≠s'/\ w.heap.size<=s/\ w.heap.size<=s'/\ QaZ w' 113 (α:=Ky) Qbr Qdp s 0 (fun _=>none)/\ QaZ w' 75 (α:=Dt) dtV QeC s' l.length (lsM l)) \/
  (QgQ f n (fun r q=>inB (L r) q q) kind p acc x=none/\∃t v,e=.returned (.tuple #[.agg #[.map none,.map none],.iface t v])))
theorem Qjz {f:Nat ->Int}(hf:Byt f){n:Nat}{K:Int ->Int ->Bool}{kind:Int}{p:List ByteArray}{before:Dt}{acc:List Lf}{x x':Nat}{z:Lf}(h:Qeg f n K kind p before acc x=some (z,x')):0<=z.r/\ z.r<=7/\ 0<=z.q/\ z.q<=1000000000/\ acc.length≠1000:=by
 unfold Qeg at h;obtain⟨j,y,h⟩:=Qab.1 h;obtain⟨k,g,h⟩:=Qab.1 h;have m:=((Qav hf (V:=j.1) (x':=j.2)).1 y).2.1;have u:=((Qav hf (V:=k.1) (x':=k.2)).1 g).2.1;split at h
 ·rename_i hy;have v:acc.length≠1000:=by
   intro e;rw [Qaj (fun hh=>hh.2.2.2 e)] at hy;cases hy
  split at h
  ·simp only [Option.some.injEq,Prod.mk.injEq] at h;obtain⟨rfl,_⟩:=h;exact⟨by simp,m,by simp,u,v⟩
  ·obtain⟨t,_,h⟩:=Qab.1 h;simp only [Option.some.injEq,Prod.mk.injEq] at h;obtain⟨rfl,_⟩:=h;exact⟨by simp,m,by simp,u,v⟩
 ·cases h
theorem QmB (tb B kb ub bs hi:Nat)(a:Option Addr)(n c:Nat)(f:Nat ->Int)(aT aS aL aE:Addr)(L:Int ->List (Int×Int))(x:Nat)(acc:List Lf)(kind:Int)(p:List ByteArray)(w:World)(hn:n<=1048576)(hnc:n<=c)(hcc:c<=9223372036854775807)(hf:Byt f)(hk:kind=1 \/kind=2)
  (E:TS w tb B kb ub bs hi a n c f aT aS aL aE L (x:Int) acc) (hhi:hi<=w.heap.size) (hS:∀r,Srt (L r)/\ (L r).length<=1000000) (hl:acc.length<=1000):
  Calls Tryz.prog 100 #[.pointer (some ⟨tb,0,none⟩),.int .i64 kind] w fun e w'=>LvP w tb B kb ub bs hi a n c f aT aS aL aE L x acc kind p e w':=by
 obtain⟨P,hP⟩:∃P,LvP w tb B kb ub bs hi a n c f aT aS aL aE L x acc kind p=P:=⟨_,rfl⟩;rw [hP];have HP:=hid hP;clear hP;obtain⟨W,hW⟩:∃W,w.alloc (.cells #[.map none,.map none] 53)=W:=⟨_,rfl⟩;have b0:Below w.heap.size w W:=by rw [<- hW];exact zO _ _
 have zW:W.heap.size=w.heap.size+1:=by rw [<- hW];simp
 have Hl:Hid (NB W w.heap.size):=hid (by rw [<- hW];exact NB.made _ _);have Hb:=hid (E.below b0);have Hj:=hid (G2.below (tb:=tb) (ub:=ub) b0);have Gt:tb<w.heap.size:=E.cur.lt;have G0:ub<w.heap.size:=E.us.lt;have Gp:=E.bt;have HU:=hid (QbL tb B a n c x 1000 f aT aS aL aE W hn hf Hb.cur Hb.seg (fun y hy=>(E.ab y hy).1) Hb.err E.bt (by omega) (by omega));have HZ:=hid zW;have HF:=hid hf;have HS:=hid hS;have Hh:w.heap.size≠tb:=by omega
 have Hi:w.heap.size≠ub:=by omega
 have Hp:w.heap.size<=w.heap.size:=Nat.le_refl _;clear E b0 zW hf hS;go_enter Tryz.func100,Tryz.ntmps100;go_wp2_with fail;try rw [hW]
 clear hW;refine HU.mono ?_;clear HU;rintro e w1 ⟨T,⟨V,x1,hr,hV,rfl,cu⟩|⟨hr,t,v,y,rfl,cu⟩⟩
 ·rw [Qa4] at hr;have Hm:=hid (Hb.t T cu);have Ha:=hid (Hj.trans (G2.t T));have M:=hid (Hl.g2 (G2.t (ub:=ub) T) Hh Hi);have Hu:=hid hr;clear T hr cu Hb Hj Hl;by_cases h0:V=0
  ·subst h0;have HN:Hid (QgQ f n (fun r q=>inB (L r) q q) kind p acc x=none):=hid (by unfold QgQ;rw [Hu.out];rfl);obtain⟨ev,ge⟩:=Hm.err.x6;have lo:8<w.heap.size:=Nat.lt_of_lt_of_le (Nat.lt_of_lt_of_le (by decide) Hm.err.lG) (Nat.le_trans Gp (Nat.le_of_lt Gt));obtain⟨u0,k0⟩:=M.c0;obtain⟨u1,k1⟩:=M.c1;have S:=M.f0;have Go:(w1.setCell ⟨w.heap.size,0,none⟩ (.map none)).cell? ⟨8,0,none⟩=some (.iface 270 ev):=by rw [World.cell?_setCell_far _ _ _ _ (by simp;omega)];exact ge
   have Gw:((w1.setCell ⟨w.heap.size,0,none⟩ (.map none)).setCell ⟨w.heap.size,1,none⟩ (.map none)).cell? ⟨8,0,none⟩=some (.iface 270 ev):=by rw [World.cell?_setCell_far _ _ _ _ (by simp;omega)];exact Go
   clear lo;go_wp2_with fail;go_region;all_goals go_wp2_with fail
   all_goals (
    obtain⟨Z,U,q0,q1,gZ,bZ,_⟩:=M.fill Ha.out Hp none none;rw [<- U];clear U;refine zF (v:=.tuple #[.agg #[.map none,.map none],.iface 270 ev]) (by simp [results,Tryz.results100,go_sem,q0,q1]) ?_;rw [<- HP.out];exact⟨gZ.trans (G2.below zI.drew),.inr ⟨HN.out,_,_,rfl⟩⟩)
  ·have d0:((V:Int)==0)=false:=by simp;omega
   go_wp2_with fail;refine(Qea w1).mono ?_;rintro e u ⟨s,h,rfl,Gs,Gy,Gz,m1,m2,b2⟩;obtain⟨W3,Hg⟩:∃W3,(u.alloc (.cells #[.map (some s),.map (some h)] 53)).alloc (.cells #[.int .i64 0,.int .i64 0] 75)=W3:=⟨_,rfl⟩;have b3:Below u.heap.size u W3:=by rw [<- Hg];exact Qak _ _ _
   have Gm:Hid (Bx2 W3 u.heap.size (.map (some s)) (.map (some h))):=hid (by rw [<- Hg];exact(Bx2.made u _ _ _).allocs _);have H1:Hid (Bx2 W3 (u.heap.size+1) (.int .i64 0) (.int .i64 0)):=hid (by rw [<- Hg];simpa using Bx2.made (u.alloc (.cells #[.map (some s),.map (some h)] 53)) (.int .i64 0) (.int .i64 0) 75);have Hn:=Qac b2 b3;have Gk:=hid (Hm.below Hn);have Gc:=hid (Ha.trans (G2.below Hn));have Gi:=hid (M.g2 (G2.below (tb:=tb) (ub:=ub) Hn) Hh Hi);have Gf:=hid (m1.same (b3.block s m1.lt));have Gg:=hid (m2.same (b3.block h m2.lt));have G4:=Ha.size;have G3:=M.lt;have G5:=b2.size;have Gr:=m1.lt;have H0:=m2.lt;clear m1 m2 b2 b3 Hn Hm Ha M;go_wp2_with fail;try rw [Hg]
   clear Hg;go_loopw [31] (fun iv wr=>∃(k y:Nat) (l:List Lf) (X N:Int),k<=V/\ iv=.int .i64 (k:Int)/\ l.length=k/\ (acc++l).length<=1000/\ u.heap.size+1<wr.heap.size/\ Hid (TS wr tb B kb ub bs hi a n c f aT aS aL aE L (y:Int) (acc++l))/\ Hid (G2 tb ub w wr)/\ Hid (NB wr w.heap.size)/\
    Hid (Bx2 wr u.heap.size (.map (some s)) (.map (some h)))/\ Hid (Bx2 wr (u.heap.size+1) (.int .i64 X) (.int .i64 N))/\ Hid (QaZ wr 113 (α:=Ky) Qbr Qdp s 0 (fun _=>none))/\ Hid (QaZ wr 75 (α:=Dt) dtV QeC h k (lsM l))/\
    Hid (QgP f n (fun r q=>inB (L r) q q) kind p V (0,0) acc x1=QgP f n (fun r q=>inB (L r) q q) kind p (V - k) (X,N) (acc++l) y)) (fun iv _=>V - (intOf iv).toNat)
   case atStart=>exact⟨0,x1,[],0,0,Nat.zero_le _,rfl,rfl,by simpa using hl,H1.lt,by simpa using Gk,Gc,Gi,Gm,H1,Gf,Gg,hid (by simp)⟩
   case round=>
    obtain⟨k,y,l,X,N,Gx,rfl,Ga,Hy,G6,E,hG,D,F,C,He,Hf,Hc⟩:=hrel;by_cases Gq:k<V
    ·obtain⟨m,hm⟩:∃m,V - k=m+1:=⟨V - k - 1,by omega⟩;have H5:=hid (QoF tb B kb ub bs hi a n c f aT aS aL aE L y (acc++l) kind p X N wr hn hnc hcc HF.out hk E.out (Nat.le_trans hhi hG.size) HS.out Hy);have d0:=C.c0;have d1:=C.c1;obtain⟨g,o,c2,_⟩:=E.cur;go_wp2_with fail;clear g o c2 d0 d1;refine H5.mono ?_;clear H5;rintro e Q ⟨g4,⟨z,x2,hz,rfl,t4⟩|⟨hz,lr,lq,ls,t,v,rfl⟩⟩
     ·obtain⟨G9,Ka,G7,G8,Ho⟩:=Qjz HF.out hz;obtain⟨kl,H9⟩:=QdF (wfI (r:=z.r) (by omega) (by omega)) (wfI (r:=z.q) (by omega) (by omega));have H4:=hid H9;have Hv:Hid (QgP f n (fun r q=>inB (L r) q q) kind p V (0,0) acc x1=QgP f n (fun r q=>inB (L r) q q) kind p (V - (k+1)) (z.r,z.q) (acc++(l++[z])) x2):=hid (by
       rw [Hc.out,hm,show V - (k+1)=m by omega];show (Qeg f n _ kind p (X,N) (acc++l) y).bind _=_;rw [hz];simp only [Option.bind_some,List.append_assoc])
      obtain⟨O,Hw⟩:∃O,(Q.alloc (.cells #[.int .i64 z.r,.int .i64 z.q] 75)).alloc (.cells #[.string z.v] 107)=O:=⟨_,rfl⟩;have b5:Below Q.heap.size Q O:=by rw [<- Hw];exact Qak _ _ _
      have A:G2 tb ub wr O:=g4.trans (G2.below b5);have Y5:Bx2 O Q.heap.size (.int .i64 z.r) (.int .i64 z.q):=by rw [<- Hw];exact(Bx2.made Q _ _ _).allocs _
      have M5:O.cell? ⟨Q.heap.size+1,0,none⟩=some (.string z.v):=by rw [<- Hw];rw [World.cell?_alloc_at _ _ _ _ (by simp)];rfl
      have G1:=g4.size;have Gu:=hG.size;have X5:Bx2 O u.heap.size (.map (some s)) (.map (some h)):=⟨(A.cell (by omega) (by omega) (by omega)).trans F.c0,(A.cell (by omega) (by omega) (by omega)).trans F.c1,fun i=>(A.frozen (by omega) (by omega) (by omega)).trans (F.f i),Nat.lt_of_lt_of_le F.lt A.size⟩;have D5:Bx2 O (u.heap.size+1) (.int .i64 X) (.int .i64 N):=⟨(A.cell (by omega) (by omega) (by omega)).trans C.c0,(A.cell (by omega) (by omega) (by omega)).trans C.c1,fun i=>(A.frozen (by omega) (by omega) (by omega)).trans (C.f i),Nat.lt_of_lt_of_le C.lt A.size⟩;have H6:=hid (Hf.same (A.block h Hf.lt (by omega) (by omega)));have Hq:=hid (He.same (A.block s He.lt (by omega) (by omega)));have H7:=hid (t4.below b5);have Hk:=hid (hG.trans A);have J:=hid (D.g2 A Hh Hi);have x0:=X5.c0;have Gv:=X5.c1;have y0:=Y5.c0;have y1:=Y5.c1;have K:=hid X5;have I:=hid D5;have Hd:=hid Y5;clear g4 A b5 hz t4 H9 F C He Hf E hG D Hc hm X5 D5 Y5;obtain⟨w9,r9,m9,Y⟩:=H6.store QaF (fun _ _=>Qgx) Tryz.underlying51 (by unfold maxLen;omega) (x:=(z.r,z.q)) (y:=z.v) H4.out;have Gb:h<u.heap.size:=H0;have R:∀b i,b≠h ->b<O.heap.size ->w9.cell? ⟨b,i,none⟩=O.cell? ⟨b,i,none⟩:=fun b i h1 h2=>World.cell?_of_block (a:=⟨b,i,none⟩) (Y.block b h2 (fun e=>h1 (by injection e)));have fg:∀b i,b≠h ->b<O.heap.size ->w9.frozen? ⟨b,i,none⟩=O.frozen? ⟨b,i,none⟩:=fun b i h1 h2=>World.frozen?_of_block (a:=⟨b,i,none⟩) (Y.block b h2 (fun e=>h1 (by injection e)));have v0:=(R Q.heap.size 0 (by omega) Hd.lt).trans Hd.c0;have v1:=(R Q.heap.size 1 (by omega) Hd.lt).trans Hd.c1;have H:Bx2 w9 (u.heap.size+1) (.int .i64 X) (.int .i64 N):=⟨(R _ 0 (by omega) I.lt).trans I.c0,(R _ 1 (by omega) I.lt).trans I.c1,fun i=>(fg _ i (by omega) I.lt).trans (I.f i),Nat.lt_of_lt_of_le I.lt Y.size⟩;have X9:Bx2 w9 u.heap.size (.map (some s)) (.map (some h)):=⟨(R _ 0 (by omega) K.lt).trans K.c0,(R _ 1 (by omega) K.lt).trans K.c1,fun i=>(fg _ i (by omega) K.lt).trans (K.f i),Nat.lt_of_lt_of_le K.lt Y.size⟩;have H8:=hid (H7.gr Y (by omega));have H3:=hid (Hk.gr Y (by omega));have Ht:=hid (J.same (Y.block w.heap.size J.lt (fun e=>by injection e with e;omega)) Y.size);have Hr:=hid (Hq.same (Y.block s Hq.lt (fun e=>by injection e with e;omega)));have Hs:Hid (QaZ w9 75 (α:=Dt) dtV QeC h (k+1) (lsM (l++[z]))):=hid (by rw [QmD];exact m9);obtain⟨Zw,Hx⟩:∃Zw,(w9.setCell ⟨u.heap.size+1,0,none⟩ (.int .i64 z.r)).setCell ⟨u.heap.size+1,1,none⟩ (.int .i64 z.q)=Zw:=⟨_,rfl⟩;have G:w9.grownBy Zw (some (u.heap.size+1)):=by
       rw [<- Hx];exact⟨rfl,rfl,rfl,by simp [World.setCell],fun j hj Ho=>(zH _ _ _ _ (fun e=>Ho (by rw [e]))).trans (zH _ _ _ _ (fun e=>Ho (by rw [e])))⟩
      have DZ:Bx2 Zw (u.heap.size+1) (.int .i64 z.r) (.int .i64 z.q):=by
       rw [<- Hx];refine⟨?_,?_,fun i=> ?_,by simpa [World.setCell] using H.lt⟩
       ·rw [World.cell?_setCell_other _ _ _ _ (by simp)];exact World.cell?_setCell_same _ _ _ H.c0
       ·exact World.cell?_setCell_same _ _ _ (by rw [World.cell?_setCell_other _ _ _ _ (by simp)];exact H.c1)
       ·simpa using H.f i
      have H2:=hid DZ;have Gn:Hid (Bx2 Zw u.heap.size (.map (some s)) (.map (some h))):=hid (by
       have e:=G.block u.heap.size X9.lt (fun e=>by injection e with e;omega);exact⟨(World.cell?_of_block (a:=⟨u.heap.size,0,none⟩) e).trans X9.c0,(World.cell?_of_block (a:=⟨u.heap.size,1,none⟩) e).trans X9.c1,fun i=>(World.frozen?_of_block (a:=⟨u.heap.size,i,none⟩) e).trans (X9.f i),Nat.lt_of_lt_of_le X9.lt G.size⟩)
      have Gl:=hid (H8.gr G (by omega));have Gd:=hid (H3.gr G (by omega));have Gj:=hid (Ht.same (G.block w.heap.size Ht.lt (fun e=>by injection e with e;omega)) G.size);have Ge:=hid (Hr.same (G.block s Hr.lt (fun e=>by injection e with e;omega)));have Gh:=hid (Hs.same (G.block h Hs.lt (fun e=>by injection e with e;omega)));have e0:=H.c0;have e1:=H.c1;have ef:=H.f;have Hz:(acc++(l++[z])).length<=1000:=by simp at Hy Ho ⊢;omega
      unfold dtV Qgm QeC at r9;dsimp only at r9;clear m9 Y R fg H X9 G DZ H8 H3 Ht Hr Hs K I Hd H7 Hk J Hq H6 H4;go_wp2_with fail;try rw [Hx]
      go_roundw;case rel=>exact⟨k+1,x2,l++[z],z.r,z.q,Gq,by go_num,by simp [Ga],Hz,H2.lt,by rw [<- List.append_assoc];exact Gl,Gd,Gj,Gn,H2,Ge,Gh,Hv⟩
      case measure=>simp [intOf];omega
     ·have HN:Hid (QgQ f n (fun r q=>inB (L r) q q) kind p acc x=none):=hid (by
       unfold QgQ;rw [Hu.out];simp only [Option.bind_some];rw [if_neg h0,Hc.out,hm];show (Qeg f n _ kind p (X,N) (acc++l) y).bind _=_;rw [hz];rfl)
      have bA:Below Q.heap.size Q (((Q.alloc (.cells #[.int .i64 lr,.int .i64 lq] 75)).alloc (.cells #[.string ls] 107)).alloc (.cells #[.string ⟨#[108,101,97,102]⟩,.int .i64 (y:Int),.iface t v] 100)):=((zO _ _).alloc (by simp) _).alloc (by simp;omega) _;have Hk:=hid (hG.trans (g4.trans (G2.below bA)));have J:=hid (D.g2 (g4.trans (G2.below bA)) Hh Hi);obtain⟨u0,k0⟩:=J.c0;obtain⟨u1,k1⟩:=J.c1;have S:=J.f0;clear g4 hz F C He Hf E hG D Hc hm bA;go_wp2_with fail;obtain⟨Z,U,q0,q1,gZ,bZ,_⟩:=J.fill Hk.out Hp none none;rw [<- U];clear U;refine zF (v:=.tuple #[.agg #[.map none,.map none],.iface 98 (.pointer (some ⟨Q.heap.size+1+1,0,none⟩))]) (by simp [results,Tryz.results100,go_sem,q0,q1]) ?_;rw [<- HP.out];exact⟨gZ,.inr ⟨HN.out,_,_,rfl⟩⟩
    ·obtain rfl:k=V:=by omega
     have HY:Hid (QgQ f n (fun r q=>inB (L r) q q) kind p acc x=some (acc++l,y)):=hid (by
      unfold QgQ;rw [Hu.out];simp only [Option.bind_some];rw [if_neg h0,Hc.out,Nat.sub_self];rfl)
     have x0:=F.c0;have Gv:=F.c1;obtain⟨u0,k0⟩:=D.c0;obtain⟨u1,k1⟩:=D.c1;have S:=D.f0;clear Hc;go_wp2_with fail;obtain⟨Z,U,q0,q1,gZ,bZ,gg⟩:=D.fill hG.out Hp (some s) (some h);rw [<- U];clear U;refine zF (v:=.tuple #[.agg #[.map (some s),.map (some h)],.nilIface]) (by simp [results,Tryz.results100,go_sem,q0,q1]) ?_;rw [<- HP.out];have zz:=HZ.out;refine⟨gZ,.inl ⟨l,y,s,h,HY.out,rfl,E.gr gg hhi,Hy,Gs,by omega,by omega,He.same (bZ s (by omega)),?_⟩⟩;rw [Ga];exact Hf.same (bZ h (by omega))
 ·rw [Qa4] at hr;have HN:Hid (QgQ f n (fun r q=>inB (L r) q q) kind p acc x=none):=hid (by unfold QgQ;rw [hr];rfl);have Ha:=hid (Hj.trans (G2.t T));have M:=hid (Hl.g2 (G2.t (ub:=ub) T) Hh Hi);obtain⟨u0,k0⟩:=M.c0;obtain⟨u1,k1⟩:=M.c1;have S:=M.f0;clear T hr cu Hj Hl Hb;go_wp2_with fail;obtain⟨Z,U,q0,q1,gZ,bZ,_⟩:=M.fill Ha.out Hp none none;rw [<- U];clear U;refine zF (v:=.tuple #[.agg #[.map none,.map none],.iface t v]) (by simp [results,Tryz.results100,go_sem,q0,q1]) ?_;rw [<- HP.out];exact⟨gZ,.inr ⟨HN.out,_,_,rfl⟩⟩
noncomputable def stM (M:List Ky ->Dt ->Option ByteArray)(z:Lf):List Ky ->Dt ->Option ByteArray:=QjT M (Way z) (z.r,z.q) z.v
theorem Qi0 (l:List Lf):∀k,k<=l.length ->Mk l k=(l.take k).foldl stM (fun _ _=>none)
 | 0,_=>by simp [Mk]
 | k+1,h=>by
  rw [QiM (by omega),List.foldl_append,<- Qi0 l k (by omega)];rfl
theorem Qex (l:List Lf):Mk l l.length=l.foldl stM (fun _ _=>none):=by
 rw [Qi0 l _ zL,List.take_length]
theorem Qd6 {q:List Ky}:∀(m:List Lf) (M:List Ky ->Dt ->Option ByteArray),(∀z∈m,Way z≠q) ->(m.foldl stM M) q=M q
 | [],M,_=>rfl
 | z::m,M,h=>by
  rw [List.foldl_cons,Qd6 m _ (fun y hy=>h y (List.mem_cons_of_mem _ hy))];exact Qbd _ _ _ (Ne.symm (h z (List.mem_cons_self ..)))
theorem Qoh {q:List Ky}:∀(m:List Lf) (M M':List Ky ->Dt ->Option ByteArray),M q=M' q ->(m.foldl stM M) q=(m.foldl stM M') q
 | [],M,M',h=>h
 | z::m,M,M',h=>by
  rw [List.foldl_cons,List.foldl_cons];refine Qoh m _ _ ?_;unfold stM;by_cases e:q=Way z
  ·subst e;rw [QbG,QbG,h]
  ·rw [Qbd _ _ _ e,Qbd _ _ _ e,h]
theorem QjF {q:List Ky}:∀(m:List Lf) (M:List Ky ->Dt ->Option ByteArray),(∀z∈m,Way z=q) ->(m.foldl stM M) q=m.foldl (fun g z=>QeJ g (z.r,z.q) (some z.v)) (M q)
 | [],M,_=>rfl
 | z::m,M,h=>by
  rw [List.foldl_cons,List.foldl_cons,QjF m _ (fun y hy=>h y (List.mem_cons_of_mem _ hy))];have e:=h z (List.mem_cons_self ..);congr 1;unfold stM;rw [e,QbG]
theorem Qhd {l m:List Lf}{q:List Ky}(h:∀z∈m,Way z≠q):Mk (l++m) (l++m).length q=Mk l l.length q:=by
 rw [Qex,Qex,List.foldl_append,Qd6 m _ h]
theorem QjV {l m:List Lf}{q:List Ky}(h:∀z∈l,Way z≠q):Mk (l++m) (l++m).length q=Mk m m.length q:=by
 rw [Qex,Qex,List.foldl_append];exact Qoh m _ _ (Qd6 l _ h)
theorem Qne {l:List Lf}{q:List Ky}(h:∀z∈l,Way z=q):Mk l l.length q=lsM l:=by
 rw [Qex,QjF l _ h];rfl
theorem QlN {l:List Lf}{q:List Ky}(h:∀z∈l,Way z≠q):Mk l l.length q=fun _=>none:=by
 rw [Qex,Qd6 l _ h]
theorem QeK (p:List ByteArray)(s:ByteArray)(k:Int):Qad (p++[s]) k=Qad p 3++[(s,k)]:=by
 unfold Qad;rw [List.length_append,List.length_singleton,List.range_succ,List.map_append];congr 1
 ·refine List.map_congr_left fun i j=> ?_;have j:=List.mem_range.1 j;rw [if_pos (by omega)];have e:gS (p++[s]) i=gS p i:=by simp [gS,List.getD,List.getElem?_append_left j]
  rw [e];by_cases h:i+1<p.length
  ·rw [if_pos h]
  ·rw [if_neg h]
 ·simp [gS,List.getD]
theorem JF.leaves {w:World}{B:Nat}{l:List Lf}{z:List Ky}{s s':Nat}(hz:∀x∈l,Way x=z)(hss:s≠s')(h1:B<=s)(h2:B<=s')(m1:QaZ w 113 (α:=Ky) Qbr Qdp s 0 (fun _=>none))(m2:QaZ w 75 (α:=Dt) dtV QeC s' l.length (lsM l)):
  JF w B l z (fun r=>if r=[] then some (s,s') else none) l.length (s,s'):=by
 have u:∀y r,∀x∈l,Way x≠z++y::r:=fun y r x j e=>by
  have:=congrArg List.length ((hz x j).symm.trans e);simp at this
 have k:∀p x,(fun r:List Ky=>if r=[] then some (s,s') else none) p=some x ->p=[]/\ x=(s,s'):=fun p x h=>by
  by_cases e:p=[]
  ·simp [e] at h;exact⟨e,h.symm⟩
  ·simp [e] at h
 refine⟨⟨fun p x j=> ?_,fun p x j=> ?_,fun p q x y j hy=> ?_,fun p x j=> ?_,fun p m=> ?_,fun p y m=> ?_⟩,by simp,fun y r=> ?_⟩
 ·obtain⟨rfl,rfl⟩:=k p x j;exact(m1.mono (Nat.zero_le _)).ext (fun y=>by simp)
 ·obtain⟨rfl,rfl⟩:=k p x j;rw [List.append_nil,Qne hz];exact m2
 ·obtain⟨rfl,rfl⟩:=k p x j;obtain⟨rfl,rfl⟩:=k q y hy;exact⟨hss,fun _=>rfl,fun _=>rfl⟩
 ·obtain⟨rfl,rfl⟩:=k p x j;exact⟨h1,h2⟩
 ·cases p with
  | nil=>simp at m
  | cons y r=>exact QlN (u y r)
 ·simp
 ·constructor
  ·intro h;simp at h
  ·rintro⟨x,j,m⟩;rw [hz x j] at m;have:=m.length_le;simp at this;omega
theorem JF.more {w:World}{B:Nat}{J J':List Lf}{z:List Ky}{N:List Ky ->Option (Nat×Nat)}{c:Nat}{x0:Nat×Nat}(h:JF w B J' z N c x0)(hn:∀x∈J,¬z <+:Way x):JF w B (J++J') z N c x0:=by
 have e:(fun r=>Mk (J++J') (J++J').length (z++r))=fun r=>Mk J' J'.length (z++r):=by
  funext r;exact QjV (fun x j e=>hn x j (by rw [e];exact List.prefix_append _ _))
 refine⟨by rw [e];exact h.tre,h.root,fun y r=>(h.there y r).trans ?_⟩;constructor
 ·rintro⟨x,j,k⟩;exact⟨x,List.mem_append.2 (.inr j),k⟩
 ·rintro⟨x,j,k⟩;rcases List.mem_append.1 j with j|j
  ·exact absurd ((List.prefix_append z (y::r)).trans k) (hn x j)
  ·exact⟨x,j,k⟩
theorem JT.more {w:World}{B:Nat}{J J':List Lf}{z:List Ky}{K:Ky ->Prop}{N:List Ky ->Option (Nat×Nat)}{c:Nat}{x0:Nat×Nat}(h:JT w B J z K N c x0)(h0:∀x∈J',Way x≠z)(hn:∀x∈J',∀y,K y ->¬(z++[y]) <+:Way x):JT w B (J++J') z K N c x0:=by
 have u:∀y r,z++y::r=(z++[y])++r:=fun y r=>by simp
 have e:mJ (J++J') z K=mJ J z K:=by
  funext r;cases r with
  | nil=>exact Qhd h0
  | cons y r=>
   simp only [mJ];by_cases k:K y
   ·rw [if_pos (Qal k),if_pos (Qal k)];exact Qhd (fun x j e=>hn x j y k (by rw [e,u y r];exact List.prefix_append _ _))
   ·rw [if_neg (by rw [Qaj k];simp),if_neg (by rw [Qaj k];simp)]
 refine⟨by rw [e];exact h.tre,h.root,fun y r=>(h.there y r).trans ?_⟩;constructor
 ·rintro⟨m,x,j,q⟩;exact⟨m,x,List.mem_append.2 (.inl j),q⟩
 ·rintro⟨m,x,j,q⟩;rcases List.mem_append.1 j with j|j
  ·exact⟨m,x,j,q⟩
  ·exact absurd ((by rw [u y r];exact List.prefix_append _ _:(z++[y]) <+:z++y::r).trans q) (hn x j y m)
section
variable {f : Nat -> Int} {n : Nat} {K : Int -> Int -> Bool} {kind : Int} {p : List ByteArray}
theorem QkD {before:Dt}{acc:List Lf}{x x':Nat}{z:Lf}(h:Qeg f n K kind p before acc x=some (z,x')):z.p=p/\ z.fl=decide (kind=2):=by
 unfold Qeg at h;obtain⟨j,m,h⟩:=Qab.1 h;obtain⟨k,q,h⟩:=Qab.1 h;split at h
 ·split at h
  ·rename_i hk;simp only [Option.some.injEq,Prod.mk.injEq] at h;obtain⟨rfl,_⟩:=h;exact⟨rfl,by simp [hk]⟩
  ·rename_i hk;obtain⟨t,_,h⟩:=Qab.1 h;simp only [Option.some.injEq,Prod.mk.injEq] at h;obtain⟨rfl,_⟩:=h;exact⟨rfl,by simp [hk]⟩
 ·cases h
theorem QhI:∀(k:Nat) (before:Dt) (acc:List Lf) (x:Nat) {acc':List Lf} {x':Nat},QgP f n K kind p k before acc x=some (acc',x') ->∃l,acc'=acc++l/\ l.length=k/\∀z∈l,z.p=p/\ z.fl=decide (kind=2)
 | 0,before,acc,x,acc',x',h=>by
  simp only [QgP,Option.some.injEq,Prod.mk.injEq] at h;exact⟨[],by simp [h.1],rfl,fun z j=>by simp at j⟩
 | k+1,before,acc,x,acc',x',h=>by
  unfold QgP at h;obtain⟨a,m,h⟩:=Qab.1 h;obtain⟨l,e,q,r⟩:=QhI k _ _ _ h;refine⟨a.1::l,by rw [e];simp,by simp [q],fun z j=> ?_⟩;rcases List.mem_cons.1 j with rfl|j
  ·exact QkD (x':=a.2) m
  ·exact r z j
theorem QkE {acc l:List Lf}{x x':Nat}(h:QgQ f n K kind p acc x=some (acc++l,x')):l≠[]/\∀z∈l,z.p=p/\ z.fl=decide (kind=2):=by
 unfold QgQ at h;obtain⟨a,r,h⟩:=Qab.1 h;by_cases j:a.1=0
 ·rw [if_pos j] at h;cases h
 ·rw [if_neg j] at h;obtain⟨u,e,k,q⟩:=QhI a.1 _ _ _ h;have m:=List.append_cancel_left e;subst m;refine⟨fun e=>by rw [e] at k;simp at k;omega,q⟩
end
end Go.Proofs.YtjdcfkmhmnblbaaGreatDoor
