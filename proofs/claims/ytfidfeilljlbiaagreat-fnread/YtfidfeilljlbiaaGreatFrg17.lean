import Derived.Test.YtfidfeilljlbiaaGreatFrg16
import Derived.Laws.OwnMore
import Derived.Test.YtfidfeilljlbiaaGreatFrg12
import Derived.Test.YtfidfeilljlbiaaGreatFrg14
set_option linter.unusedVariables false
set_option linter.unusedSimpArgs false
set_option maxRecDepth 100000
set_option maxHeartbeats 40000000
namespace Go.Proofs.YtfidfeilljlbiaaGreat
open Go.ChangeShapes Go.WideShapes Go.ChangeAt Go.RowKit Go.Maps Go.Sort Go.Lib Go.Shelf
theorem sorted_dots {ts:List Dt}(hs:SortedIn (ltOf cmpDt) 0 ts.length ts.toArray):ts.Pairwise (fun x y=>0<=cmpDt y x):=by
 rw [List.pairwise_iff_getElem];intro i j hi hj Ha;have h1:=hs i j (by omega) Ha hj;have e1:ts.toArray[i]! =ts[i]:=by rw [getElem!_pos _ _ (by simpa using hi)];simp
 have e2:ts.toArray[j]! =ts[j]:=by rw [getElem!_pos _ _ (by simpa using hj)];simp
 rw [e1,e2] at h1;simpa [ltOf] using h1
theorem cmpDt_le {x y:Dt}(h:0<=cmpDt y x)(e:x.1=y.1):x.2<=y.2:=by
 unfold cmpDt orI cmpI at h;rw [e] at h;simp only [Int.lt_irrefl,if_false,if_true] at h;by_cases h1:y.2<x.2
 ·rw [if_pos h1] at h;exact absurd h (by decide)
 ·omega
def Gvn (S:List Dt ->Prop)(ts:List Dt):Prop:=∃ss,S ss/\ ts.Perm ss
def SeqGivesB {α:Type}(F:Fence)(n:Nat)(P:Program)(g:Nat)(lb:Array Value)(enc:α ->Value)(S:List α ->Prop)(N:Nat)(w:World):Prop:=
 ∀(l:Nat) (J:List α ->World ->Prop) (W:World),RowKit.Below w.heap.size w W ->AbidesFrom W.heap.size J ->(∀pre W1,J pre W1 ->RowKit.Below w.heap.size w W1) ->
  (∀pre x W1,J pre W1 ->pre.length<N ->YieldAt F (n - 1) P l #[enc x] W1 fun e W'=>e=.returned (.bool true)/\ J (pre++[x]) W'/\ KeepsWalks W1 W') ->
  J [] W ->
  CallsIn F n P g (#[.func (.yield l) #[] #[]]++lb) W fun e W'=>(∃v,e=.returned v)/\∃xs,S xs/\ J xs W'
namespace Ds
theorem appendSeqB (n:Nat)(hn:2<=n)(g:Nat)(lb:Array Value)(eg:∀args w,(callFunc g args).run Tryz.prog w=.ok (.enter g args) w)
  (S:List Dt ->Prop) (N:Nat) (hN:N<=maxLen) (hNb:N*16<=140737488355328) (w:World) (hseq:SeqGivesB Fence.wide (n - 1) Tryz.prog g lb dtV S N w):
  CallsIn Fence.wide n Tryz.prog 127 #[.slice none 0 0,.func (.func g) #[] lb] w fun e w'=>∃(v:Value) (ss:List Dt),e=.returned v/\ S ss/\ w'.ownsRow w.heap.size 58 2 v ss.length (kRow ss)/\ (v=.slice none 0 0↔ss=[])/\ RowKit.Below w.heap.size w w':=by
 have Hu:103≠58:=by decide
 refine callsIn_of_wp_marks Tryz.func127 rfl trivial ?_ rfl;simp only [Tryz.ntmps127,List.size_toArray,List.length_cons,List.length_nil,Nat.reduceAdd,Nat.reduceSub,Array.replicate_succ,Array.replicate_zero,List.push_toArray,List.append_toArray,List.nil_append,List.cons_append];gi_wp2
 refine wpIn_rangeFunc ?_;intro fn Ht;obtain⟨W0,Hf⟩:∃W0,w.alloc (.cells #[.slice none 0 0] 103)=W0:=⟨_,rfl⟩;have Hn:W0.heap.size=w.heap.size+1:=by rw [<- Hf];simp
 have Ho:W0.heap[w.heap.size]? =some (.cells #[.slice none 0 0] 103 (0,0)):=by rw [<- Hf];exact World.alloc_heap_new w _
 have Hg:RowKit.Below w.heap.size w W0:=by rw [<- Hf];exact(RowKit.Below.refl _ w).alloc zL _
 rw [Hf];obtain⟨W1,Hc⟩:∃W1,(W0.alloc (.deferred (some []))).alloc (.loop (apRec fn (.func (.func g) #[] lb) w.heap.size W0.heap.size .ready))=W1:=⟨_,rfl⟩;have Hj:∀k,k<W0.heap.size ->W1.heap[k]? =W0.heap[k]? :=fun k hk=>by
  rw [<- Hc];exact(Below.heap_alloc _ _ k (by simp;omega)).trans (Below.heap_alloc _ _ k hk)
 have Hh:RowKit.Below w.heap.size w W1:=by rw [<- Hc];exact(Hg.alloc Hg.size _).alloc (by have:=Hg.size;simp;omega) _
 have hM:ApAt w fn (.func (.func g) #[] lb) w.heap.size (W0.heap.size+1) W0.heap.size [] W1:=
  ⟨⟨_,(Hj w.heap.size (by omega)).trans Ho,⟨rfl,.inl ⟨rfl,rfl⟩⟩,by simp⟩,
   by rw [<- Hc];have:=World.alloc_heap_new (W0.alloc (.deferred (some []))) (.loop (apRec fn (.func (.func g) #[] lb) w.heap.size W0.heap.size .ready));rwa [World.size_alloc] at this,
   by rw [<- Hc];exact(Below.heap_alloc _ _ _ (by simp)).trans (World.alloc_heap_new W0 _),Hh⟩
 refine⟨W0.heap.size+1,[{target:=.collected W0.heap.size,args:=#[]}],W1,{target:=.fn (.func g) lb,args:=#[.func (.yield (W0.heap.size+1)) #[] #[]]},W1,g,
  #[.func (.yield (W0.heap.size+1)) #[] #[]]++lb,W1,?_,?_,?_,?_,fun _=>by omega,?_⟩
 ·rw [<- Hc];exact run_enterLoop_outer _ _ _ _ _
 ·simp [resolve,go_sem]
 ·intro f' Hr;trivial
 ·simp [invoke,go_sem,eg]
 ·refine(hseq (W0.heap.size+1) (ApAt w fn (.func (.func g) #[] lb) w.heap.size (W0.heap.size+1) W0.heap.size) W1 Hh (ap_abides _ _ _ _ _ _ _ Hh.size) (fun _ _ h=>h.below)
   (fun pre x W hJ hl=>apYieldK (n - 1 - 1) w fn _ w.heap.size (W0.heap.size+1) W0.heap.size (by omega) (by omega) (by omega) zL (by omega) N hN hNb pre x W hJ hl) hM).mono ?_
  rintro e W2 ⟨⟨v0,rfl⟩,ss,hS,h2⟩;obtain⟨v,hv,Hb,Hi⟩:=h2.box;have He:=run_endLoop (P:=Tryz.prog) h2.L (by simp [apRec]);obtain⟨W3,Hd⟩:∃W3,W2.putObj (W0.heap.size+1) (.loop {apRec fn (.func (.func g) #[] lb) w.heap.size W0.heap.size .ready with state:=.exhausted})=W3:=⟨_,rfl⟩;rw [Hd] at He;have Hm:W2.grownBy W3 (some (W0.heap.size+1)):=by rw [<- Hd];exact grownBy_putObj_a _ _ _
  have Hp:W3.heap[w.heap.size]? =some (.cells #[v] 103 (0,0)):=by rw [<- Hd];exact(World.putObj_heap_other (by omega)).trans hv
  have Hk:W3.heap[W0.heap.size]? =some (.deferred (some [])):=by rw [<- Hd];exact(World.putObj_heap_other (by omega)).trans h2.K
  have Ha:=Hb.kept Hm (ownsRow_ne_a Hb h2.L (fun cur e=>by cases e));have Hl:RowKit.Below w.heap.size w W3:=h2.below.grown Hm h2.below.size (fun k e=>by cases e;omega);obtain⟨Hq,Hs⟩:=cell_of_box_a Hp;have HR:=hid Ha;clear Hd Hb Ha;refine⟨none,W3,He,?_⟩;gi_wp2
  rw [<- Hn];refine⟨by simp,.inl ⟨_,_,rfl,run_takeDeferred Hk,?_⟩⟩;exact⟨_,results_tmp rfl _ _ _,v,ss,rfl,hS,HR.out.kept (grownBy_putObj_a _ _ _) (ownsRow_ne_a HR.out Hk (fun cur e=>by cases e)),Hi,Hl.grown (grownBy_putObj_a _ _ _) Hl.size (fun k e=>by cases e;omega)⟩
theorem collectB (g:Nat)(lb:Array Value)(eg:∀args w,(callFunc g args).run Tryz.prog w=.ok (.enter g args) w)
  (S:List Dt ->Prop) (N:Nat) (hN:N<=maxLen) (hNb:N*16<=140737488355328) (w:World) (hseq:SeqGivesB Fence.wide 4 Tryz.prog g lb dtV S N w):
  Calls Tryz.prog 103 #[.func (.func g) #[] lb] w fun e w'=>∃(v:Value) (ss:List Dt),e=.returned v/\ S ss/\ w'.ownsRow w.heap.size 58 2 v ss.length (kRow ss)/\ (v=.slice none 0 0↔ss=[])/\ RowKit.Below w.heap.size w w':=by
 have HA:=hid ((callsIn_wide (n:=5)).1 (appendSeqB 5 (by omega) g lb eg S N hN hNb w hseq));go_enter Tryz.func103,Tryz.ntmps103;go_wp2_with fail;refine HA.out.mono ?_;rintro e w' ⟨v,ss,rfl,hS,Hb,Ha,hb⟩;have HX:=hid (And.intro hS (And.intro Hb (And.intro Ha hb)));clear hS Hb Ha hb HA;go_wp2_with fail;go_ret;exact⟨v,ss,rfl,HX.out.1,HX.out.2.1,HX.out.2.2.1,HX.out.2.2.2⟩
end Ds
theorem sortedFuncG (g:Nat)(lb:Array Value)(eg:∀args w,(callFunc g args).run Tryz.prog w=.ok (.enter g args) w)(N:Nat)(S:List Dt ->Prop)(w:World)(hN:N<=1048576)(hSN:∀ss,S ss ->ss.length<=N)(hseq:SeqGivesB Fence.wide 4 Tryz.prog g lb dtV S N w):
  Calls Tryz.prog 76 #[.func (.func g) #[] lb,.func (.func 78) #[] #[]] w fun e w'=>∃(v:Value) (ts:List Dt),e=.returned v/\ Gvn S ts/\ ts.Pairwise (fun x y=>0<=cmpDt y x)/\ ts.length<=1048576/\ w'.ownsRow w.heap.size 58 2 v ts.length (Ds.kRow ts)/\ RowKit.Below w.heap.size w w':=by
 have HC:=hid (Ds.collectB g lb eg _ N (by unfold maxLen;omega) (by omega) w hseq);go_enter Tryz.func76,Tryz.ntmps76;go_wp2_with fail;refine HC.out.mono ?_;rintro e w1 ⟨v,ss,rfl,hK,Ha,Hd,hb⟩;have Hi:=hSN ss hK;rcases Ha.2 with ⟨rfl,hz⟩|⟨gb,Hh,Hk,rfl,Hc,Hl,r1,r2,r3,r4⟩
 ·have Hj:ss=[]:=List.eq_nil_of_length_eq_zero hz;subst Hj;have HB:=hid hb;have HK:=hid hK;have HR:=hid Ha;have Hb:=AnyF.slices_SortFunc_none Tryz.sortD none 0 (.func (.func 78) #[] #[]) w1;change Calls Tryz.prog 105 _ _ _ at Hb;have HS:=hid Hb;clear hb hK Ha HC Hb;go_wp2_with fail;refine HS.out.mono ?_;rintro e w2 ⟨rfl,rfl⟩;clear HS;go_wp2_with fail;go_ret;exact⟨_,[],rfl,⟨[],HK.out,List.Perm.refl _⟩,List.Pairwise.nil,by simp,HR.out,HB.out⟩
 ·have HS:=hid (Ds.sortFuncK w.heap.size gb Hh ss w1 Ha (by omega));have HB:=hid hb;have HK:=hid hK;have HL:Hid (ss.length<=1048576):=hid (by omega);have Hg:=hid Hc;clear hb hK Ha HC Hd;go_wp2_with fail;refine HS.out.mono ?_;rintro e w2 ⟨rfl,ts,hp,hs,ho,hg⟩;have HO:=hid ho;have He:=hid (HB.out.grown hg HB.out.size (fun k e=>by injection e with e;have:=Hg.out;omega));have HP:=hid hp;have Hf:=hid hs;clear ho hg hp hs HS;go_wp2_with fail;go_ret;refine⟨_,ts,rfl,⟨ss,HK.out,HP.out⟩,sorted_dots Hf.out,by rw [HP.out.length_eq];exact HL.out,?_,He.out⟩;rw [HP.out.length_eq];exact HO.out
def gD (ds:List Dt)(i:Nat):Dt:=ds.getD i (0,0)
def DSeg (w:World)(a:Option Addr)(ds:List Dt):Prop:=
 ds.length=0 \/∃g,a=some ⟨g,0,none⟩/\ g<w.heap.size/\∀i,i<ds.length ->w.cell? ⟨g,i*2,none⟩=some (.int .i64 (gD ds i).1)/\ w.cell? ⟨g,i*2+1,none⟩=some (.int .i64 (gD ds i).2)
theorem DSeg.below {w w1:World}{a:Option Addr}{ds:List Dt}(h:DSeg w a ds)(hb:RowKit.Below w.heap.size w w1):DSeg w1 a ds:=by
 rcases h with h|⟨g,e,hg,hc⟩
 ·exact .inl h
 ·exact .inr ⟨g,e,Nat.lt_of_lt_of_le hg hb.size,fun i hi=>⟨(hb.cell (p:=⟨g,_,none⟩) hg).trans (hc i hi).1,(hb.cell (p:=⟨g,_,none⟩) hg).trans (hc i hi).2⟩⟩
theorem gD_get {ds:List Dt}{i:Nat}{d:Dt}(h:ds[i]? =some d):gD ds i=d:=by simp [gD,List.getD,h]
theorem gD_mem {ds:List Dt}{i:Nat}(h:i<ds.length):gD ds i∈ds:=by simp [gD,List.getD,h]
theorem gD_take {ds:List Dt}{k:Nat}(h:k<ds.length):ds.take (k+1)=ds.take k++[gD ds k]:=by
 rw [List.take_add_one];simp [gD,List.getD,h]
theorem own_dseg {w:World}{B:Nat}{v:Value}{ts:List Dt}(h:w.ownsRow B 58 2 v ts.length (Ds.kRow ts)):∃a c,v=.slice a ts.length c/\ DSeg w a ts/\ ts.length<=c/\ c<=9223372036854775807:=by
 obtain⟨a,c,e,h1,h2,h3⟩:=jdseg h;refine⟨a,c,e,?_,h1,h2⟩;by_cases h0:ts.length=0
 ·exact .inl h0
 ·obtain⟨g,ea,_,hg,hc⟩:=h3 (by omega);exact .inr ⟨g,ea,hg,fun i hi=>by
   obtain⟨d,e1,e2,e3⟩:=hc i hi;rw [gD_get e1];exact⟨e2,e3⟩⟩
theorem rows_ne {w:World}{B B' s s' n n':Nat}{e e':TypeId}{v v':Value}{xs xs':List Value}(h:w.ownsRow B e s v n xs)(h':w.ownsRow B' e' s' v' n' xs')(hne:e≠e'):v.ownBlock=none \/v.ownBlock≠v'.ownBlock:=by
 rcases h.2 with ⟨rfl,_⟩|⟨g,Hd,He,rfl,_,hb,_⟩
 ·exact .inl rfl
 ·refine .inr fun e1=> ?_;rcases h'.2 with ⟨rfl,_⟩|⟨g',Hb,Hc,rfl,_,Ha,_⟩
  ·cases e1
  ·have:g=g':=by simpa [Value.ownBlock] using e1
   rw [<- this,hb] at Ha;injection Ha with Ha;injection Ha with _ Ha;exact hne Ha
theorem valuesItD (n l Bs g cap:Nat)(ds:List Dt)(J:List Dt ->World ->Prop)(hn:1<=n)(W0:World)(hlen:ds.length<=1048576)
  (hY:∀pre x W,J pre W ->pre.length<ds.length ->YieldAt Fence.wide (n - 1) Tryz.prog l #[dtV x] W fun e W'=>e=.returned (.bool true)/\ J (pre++[x]) W'/\ KeepsWalks W W')
  (hJB:∀pre W1,J pre W1 ->RowKit.Below W0.heap.size W0 W1) (W:World) (hJ:AbidesFrom W.heap.size J) (hB0:Bs<W0.heap.size) (hm:W0.cell? ⟨Bs,0,none⟩=some (.slice (some ⟨g,0,none⟩) ds.length cap)) (hg:g<W0.heap.size)
  (hc:∀i,i<ds.length ->W0.cell? ⟨g,i*2,none⟩=some (.int .i64 (gD ds i).1)/\ W0.cell? ⟨g,i*2+1,none⟩=some (.int .i64 (gD ds i).2)) (h0:J [] W):
  CallsIn Fence.wide n Tryz.prog 106 #[.func (.yield l) #[] #[],.pointer (some ⟨Bs,0,none⟩)] W fun e W'=>(∃v,e=.returned v)/\∃ss,ss=ds/\ J ss W':=by
 have Hm:W.cell? ⟨Bs,0,none⟩=some (.slice (some ⟨g,0,none⟩) ds.length cap):=((hJB [] W h0).cell (p:=⟨Bs,0,none⟩) hB0).trans hm;have HJ:=hid hJ;have HY:=hid hY;have Hf:=hid hJB;have HC:=hid hc;clear hJ hY hJB hc hm;refine callsIn_of_wp Tryz.func106 rfl trivial ?_ rfl;simp only [Tryz.ntmps106,List.size_toArray,List.length_cons,List.length_nil,Nat.reduceAdd,Nat.reduceSub,Array.replicate_succ,Array.replicate_zero,List.push_toArray,List.append_toArray,List.nil_append,List.cons_append];gi_wp2
 gi_loopw [7] (fun i wr=>∃k:Nat,k<=ds.length/\ i=.int .i64 k/\ J (ds.take k) wr/\ W.heap.size<=wr.heap.size)
  (fun i _=>ds.length - (intOf i).toNat)
 case atStart=>exact⟨0,Nat.zero_le _,rfl,h0,Nat.le_refl _⟩
 case round=>
  obtain⟨k,hk,rfl,Ha,Hn⟩:=hrel;by_cases Hd:k<ds.length
  ·obtain⟨xr,xq,hd⟩:∃r q,gD ds k=(r,q):=⟨_,_,rfl⟩;have hb:=Hf.out _ _ Ha;have q0:=(hb.cell (p:=⟨g,k*2,none⟩) hg).trans (HC.out k Hd).1;have q1:=(hb.cell (p:=⟨g,k*2+1,none⟩) hg).trans (HC.out k Hd).2;rw [hd] at q0 q1;dsimp only at q0 q1;obtain⟨w3,Hb⟩:∃w3,wr.alloc (.cells #[.int .i64 xr,.int .i64 xq] 58)=w3:=⟨_,rfl⟩;have He:J (ds.take k) w3:=by rw [<- Hb];exact HJ.out _ wr _ none Ha (World.grownBy_alloc wr _ none) (fun r e=>by cases e)
   obtain⟨fn,Hl,Hc,Hi,hy,hR⟩:=HY.out (ds.take k) (xr,xq) w3 He (by rw [List.length_take];omega);have K3:Bx2 w3 wr.heap.size (.int .i64 xr) (.int .i64 xq):=by rw [<- Hb];exact Bx2.made _ _ _ _
   have c0:=K3.c0;have c1:=K3.c1;have Hg:Hid (ds.take (k+1)=ds.take k++[(xr,xq)]):=hid (by rw [gD_take Hd,hd]);have Hh:Hid (W.heap.size<=w3.heap.size):=hid (by rw [<- Hb];simp;omega);have i1:(0:Int)<=(k:Int):=Int.natCast_nonneg _;have i2:(k:Int)<(ds.length:Int):=by omega
   clear K3 hd hb He;dsimp only [dtV,dotV] at hy hR ⊢;gi_wp2
   try rw [Hb]
   refine hR.mono ?_;rintro e W3 ⟨rfl,Hj,Hk⟩;gi_wp2
   go_roundw;case rel=>exact⟨k+1,by omega,by go_num,by rw [Hg.out];exact Hj,by have:=Hh.out;have:=Hk.size;omega⟩
   case measure=>simp [intOf];omega
  ·obtain rfl:k=ds.length:=by omega
   gi_wp2
   go_end0;exact⟨⟨_,rfl⟩,ds,rfl,by rw [List.take_length] at Ha;exact Ha⟩
theorem valuesNoD (n l Bs cap:Nat)(a:Option Addr)(J:List Dt ->World ->Prop)(W:World)(hm:W.cell? ⟨Bs,0,none⟩=some (.slice a 0 cap))(h0:J [] W):
  CallsIn Fence.wide n Tryz.prog 106 #[.func (.yield l) #[] #[],.pointer (some ⟨Bs,0,none⟩)] W fun e W'=>(∃v,e=.returned v)/\∃ss:List Dt,ss=[]/\ J ss W':=by
 refine callsIn_of_wp Tryz.func106 rfl trivial ?_ rfl;simp only [Tryz.ntmps106,List.size_toArray,List.length_cons,List.length_nil,Nat.reduceAdd,Nat.reduceSub,Array.replicate_succ,Array.replicate_zero,List.push_toArray,List.append_toArray,List.nil_append,List.cons_append];gi_wp2
 gi_loopw [7] (fun i wr=>i=.int .i64 0/\ J [] wr) (fun _ _=>0)
 case atStart=>exact⟨rfl,h0⟩
 case round=>
  obtain⟨rfl,Ha⟩:=hrel;gi_wp2
  go_end0;exact⟨⟨_,rfl⟩,[],rfl,Ha⟩
theorem valuesGivesD (Bs cap:Nat)(a:Option Addr)(ds:List Dt)(w:World)(hlen:ds.length<=1048576)(hB:Bs<w.heap.size)(hm:w.cell? ⟨Bs,0,none⟩=some (.slice a ds.length cap))(hs:DSeg w a ds):
  SeqGivesB Fence.wide 4 Tryz.prog 106 #[.pointer (some ⟨Bs,0,none⟩)] dtV (fun ss=>ss=ds) ds.length w:=fun l J W hW hJ hJB hY h0=>by
 rcases hs with h|⟨g,rfl,hg,hc⟩
 ·have e:ds=[]:=List.eq_nil_of_length_eq_zero h;subst e;exact valuesNoD 4 l Bs cap a J W ((hW.cell (p:=⟨Bs,0,none⟩) hB).trans hm) h0
 ·exact valuesItD 4 l Bs g cap ds J (by omega) w hlen hY hJB W hJ hB hm hg hc h0
theorem valuesFnD (a:Option Addr)(n c:Nat)(w:World):Calls Tryz.prog 77 #[.slice a n c] w fun e w'=>e=.returned (.func (.func 106) #[] #[.pointer (some ⟨w.heap.size,0,none⟩)])/\ w'=w.alloc (.cells #[.slice a n c] 103):=by
 go_enter Tryz.func77,Tryz.ntmps77;go_wp2_with fail;go_ret;exact⟨rfl,rfl⟩
def DR (w:World)(B:Nat)(v:Value)(ts:List Dt):Prop:=w.ownsRow B 58 2 v ts.length (Ds.kRow ts)
theorem kRow_app (a b:List Dt):Ds.kRow (a++b)=Ds.kRow a++Ds.kRow b:=by simp [Ds.kRow]
theorem DR.below {w w1:World}{B:Nat}{v:Value}{ts:List Dt}(h:DR w B v ts)(hb:RowKit.Below w.heap.size w w1):DR w1 B v ts:=row_below h hb
theorem DR.nil (w:World)(B:Nat):DR w B (.slice none 0 0) []:=World.ownsRow_nil _ _ _ _
theorem DR.weak {w:World}{B C:Nat}{v:Value}{ts:List Dt}(h:DR w B v ts)(hc:C<=B):DR w C v ts:=by
 refine⟨h.1,?_⟩;rcases h.2 with e|⟨g,Ha,Hb,e,hb,r⟩
 ·exact .inl e
 ·exact .inr ⟨g,Ha,Hb,e,Nat.le_trans hc hb,r⟩
theorem dotsApp (B B':Nat)(v x:Value)(ts ss:List Dt)(w:World)(ty:TypeId)(h:DR w B v ts)(h':DR w B' x ss)(hB:B<=w.heap.size)(hl:ts.length+ss.length<=1000000000):
  ∃v' w',(Builtin.append_ #[103,103] ty #[v,x]).run Tryz.prog w=.ok v' w'/\ DR w' B v' (ts++ss)/\ Gr w w' v v':=by
 obtain⟨i0,hi,Hc,Hd,He⟩:=info_parts Ds.infoDt;rcases h'.2 with ⟨rfl,h0⟩|⟨g,Ha,Hf,rfl,hb,hg,h1,h2,h3,h4⟩
 ·have:ss=[]:=List.eq_nil_of_length_eq_zero h0;subst this;exact⟨v,w,run_append_owned_none w B _ ty 58 i0 2 Tryz.underlying103 hi v ts.length _ h,by simpa using h,Gr.refl _ _⟩
 ·obtain⟨v',w',hr,k2,k3,k4,k5⟩:=run_append_own_at (P:=Tryz.prog) w B 103 ty 58 i0 (.agg #[.int .i64 0,.int .i64 0]) 2 16 Tryz.underlying103 hi Hc Hd He rfl (by decide) v ts.length _ h ⟨g,0,none⟩ ss.length Ha (Ds.kRow ss) (by rw [Ds.kRow_len])
   (fun j u hj=>by
    have Hb:j<ss.length*2:=by
     have:=(List.getElem?_eq_some_iff.1 hj).1;rw [Ds.kRow_len] at this;exact this
    have:=World.ownsRow.cellAt h' j Hb;rw [hj] at this;by_cases e:j=0
    ·subst e;simpa [Addr.add] using this
    ·simpa [Addr.add,e] using this)
   (fun u hu=>by
    unfold Ds.kRow at hu;obtain⟨d,_,hd⟩:=List.mem_flatMap.1 hu;simp [Ds.kCells] at hd;rcases hd with rfl|rfl<;>rfl) (by unfold maxLen;omega) (by omega) hB
  refine⟨v',w',hr,?_,Gr.app k3 k5⟩;unfold DR;rw [List.length_append,kRow_app];exact k2
theorem ob_ne {o:Option Nat}{k:Nat}(h:o=none \/o≠some k):o≠some k:=by
 rcases h with h|h
 ·rw [h];simp
 ·exact h
theorem rng_row {α β:Type}{w:World}{t:TypeId}{kv:α ->Value}{vo:Option β ->Value}{b r c cnt:Nat}{f:α ->Option β}{ds:List α}{B s n:Nat}{e:TypeId}{v:Value}{xs:List Value}(h:w.ownsRow B e s v n xs)(hr:Rng w t kv vo (some b) r c f ds cnt):(v.ownBlock=none \/v.ownBlock≠some r)/\ (v.ownBlock=none \/v.ownBlock≠some b):=by
 obtain⟨D,Hd,⟨es,Ha,Hb,Hf,c0,hb,F,hs,hD,Hc,He⟩,_⟩:=hr;rcases h.2 with ⟨rfl,_⟩|⟨g,Hg,Hh,rfl,_,hg,_⟩
 ·exact⟨.inl rfl,.inl rfl⟩
 ·refine⟨.inr fun e=> ?_,.inr fun e=> ?_⟩
  ·have:g=r:=by simpa [Value.ownBlock] using e
   rw [this,Hc] at hg;cases hg
  ·have:g=b:=by simpa [Value.ownBlock] using e
   rw [this,hb] at hg;cases hg
def DtW (J:List Lf)(z:List Ky)(d:Dt):Prop:=∃x∈J,z <+:Way x/\ (x.r,x.q)=d
def DtM (J:List Lf)(z:List Ky)(d:Dt):Prop:=∃x∈J,Way x=z/\ (x.r,x.q)=d
theorem dtW_split {J:List Lf}{z:List Ky}{ks:List Ky}{d:Dt}(hk:∀x∈J,∀y,z++[y] <+:Way x ->y∈ks):DtW J z d↔DtM J z d \/∃y∈ks,DtW J (z++[y]) d:=by
 constructor
 ·rintro⟨x,hx,⟨s,hs⟩,e⟩;cases s with
  | nil=>exact .inl ⟨x,hx,by rw [<- hs];simp,e⟩
  | cons y s=>
   have hy:z++[y] <+:Way x:=by rw [<- hs,show z++y::s=(z++[y])++s by simp];exact List.prefix_append _ _
   exact .inr ⟨y,hk x hx y hy,x,hx,hy,e⟩
 ·rintro(⟨x,hx,h,e⟩|⟨y,_,x,hx,h,e⟩)
  ·exact⟨x,hx,by rw [h];exact List.prefix_refl _,e⟩
  ·exact⟨x,hx,List.IsPrefix.trans (List.prefix_append _ _) h,e⟩
theorem marks_dt {J:List Lf}{z:List Ky}{d:Dt}:Mk J J.length z d≠none↔DtM J z d:=by
 rw [Mk_ne];constructor
 ·rintro⟨j,hj,h1,h2⟩;exact⟨gL J j,gL_mem.2 ⟨j,hj,rfl⟩,h1,h2⟩
 ·rintro⟨x,hx,h1,h2⟩;obtain⟨j,hj,e⟩:=gL_mem.1 hx;exact⟨j,hj,by rw [e];exact h1,by rw [e];exact h2⟩
theorem keys_len {J:List Lf}(hd:Dis J J.length){z:List Ky}{ss:List Dt}(h:KeysF (Mk J J.length z) ss):ss.length=mW J z:=by
 have h2:=marks_keys hd z;have:=((List.perm_ext_iff_of_nodup h.1 h2.1).2 (fun x=>(h.2 x).trans (h2.2 x).symm)).length_eq;rw [this,List.length_map];rfl
theorem dotsStep {v0:World}{B c:Nat}{J:List Lf}{N:List Ky ->Option (Nat×Nat)}(H:TJ v0 B J N c)(hc:c<=100000)(hJ:J.length<=1000)(z:List Ky)(x:Nat×Nat)(hx:N z=some x)
  (hIH:∀y x1,N (z++[y])=some x1 ->∀w,RowKit.Below v0.heap.size v0 w ->Calls Tryz.prog 75 #[.agg #[.map (some x1.1),.map (some x1.2)]] w fun e w'=>(∃v ts,e=.returned v/\ DR w' w.heap.size v ts/\ (∀d,d∈ts↔DtW J (z++[y]) d)/\ ts.length=cW J (z++[y]))/\ RowKit.Below w.heap.size w w')
  (w:World) (hw:RowKit.Below v0.heap.size v0 w):
  Calls Tryz.prog 75 #[.agg #[.map (some x.1),.map (some x.2)]] w fun e w'=>(∃v ts,e=.returned v/\ DR w' w.heap.size v ts/\ (∀d,d∈ts↔DtW J z d)/\ ts.length=cW J z)/\ RowKit.Below w.heap.size w w':=by
 have HT:=hid (H.below hw);have HV:=hid hw;have HX:=hid hx;have HI:=hid hIH;have Gn:=hid H.dis;obtain⟨W,hW⟩:∃W,w.alloc (.cells #[.map (some x.1),.map (some x.2)] 65)=W:=⟨_,rfl⟩;have b0:RowKit.Below w.heap.size w W:=by rw [<- hW];exact zO _ _
 have X0:Bx2 W w.heap.size (.map (some x.1)) (.map (some x.2)):=by rw [<- hW];exact Bx2.made _ _ _ _
 have Gd:=hid X0;have Hh:=hid b0;have x1:=X0.c1;have H9:=hid (And.intro hc hJ);have Gv:=hid H.there;have HG:Hid (∀w1,RowKit.Below w.heap.size w w1 ->∀Bm,Bm<w1.heap.size ->w1.cell? ⟨Bm,0,none⟩=some (.map (some x.2)) ->∃n,n<=1048576/\ SeqGives Fence.wide 4 Tryz.prog 128 #[.pointer (some ⟨Bm,0,none⟩)] dtV (KeysF (Mk J J.length z)) n w1):=hid (fun w1 b1 Bm hBm hm=>by
  obtain⟨D,hF⟩:=(HT.out.tre.below b1).marks z x HX.out;exact⟨Maps.size D,Nat.le_trans hF.own.size_le (by have:=H9.out.1;omega),Ds.keysGivesK Bm x.2 c _ D w1 hBm hm hF⟩)
 clear H hc hx hIH hw b0 X0 hJ;go_enter Tryz.func75,Tryz.ntmps75;go_wp2_with fail;try rw [hW]
 clear hW;refine(Ds.keysFnK (some x.2) W).mono ?_;rintro e w1 ⟨rfl,Hq⟩;have b1:RowKit.Below W.heap.size W w1:=by rw [Hq];exact zO _ _
 have c1:w1.cell? ⟨W.heap.size,0,none⟩=some (.map (some x.2)):=by rw [Hq];simp
 have z1:W.heap.size<w1.heap.size:=by rw [Hq];simp
 have Hs:=hid (Hh.out.trans (b1.mono Hh.out.size));have Gc:=hid b1;obtain⟨n,hn,Hl⟩:=HG.out w1 Hs.out W.heap.size z1 c1;have HS:=hid (Ds.collectK _ _ (enters_of Tryz.func128 (by kernel_rfl) rfl) _ n (by unfold maxLen;omega) (by omega) w1 Hl);clear Hl Hq b1 c1 z1 x1 HG;go_wp2_with fail;refine HS.out.mono ?_;rintro e w2 ⟨G7,H4,rfl,hK,Hf,_,b2⟩;obtain⟨fa,fn,fc,Ha⟩:=row_form Hf;subst Ha;have Gi:=hid (Hs.out.trans (b2.mono Hs.out.size));have Hz:=hid (keepS Gc.out b2);have Gt:Hid (DR w2 W.heap.size (.slice fa fn fc) H4):=hid (DR.weak Hf Gc.out.size);have HK:=hid hK;have Go:Hid (MapF w2 114 keyV nodV x.1 c (fun y=>N (z++[y]))):=hid ((HT.out.tre.below Gi.out).kids z x HX.out);have x0:=(Gd.out.below Hz.out Gd.out.lt).c0;have Gx:Hid (W.heap.size<=w2.heap.size):=hid Hz.out.size;clear hK Hf b2 HS;go_wp2_with (at_range;refine wpList_range_O _ rfl _ 62 rfl 114 65 keyKeyed Tryz.underlying62 keyV nodV (some x.1) c (fun y=>N (z++[y])) rfl Go.out ?_;intro w0 G1 He Hg G5);have H0:RowKit.Below w2.heap.size w2 w0:=⟨Hg.os,Hg.tape,Hg.output,Hg.size,fun k hk=>Hg.block k hk (by simp)⟩;have H8:Hid (RowKit.Below W.heap.size W w0):=hid (keepS Hz.out H0);have Ga:Hid (DR w0 W.heap.size (.slice fa fn fc) H4):=hid (Gt.out.below H0);clear Hg G5 x0 H0;try go_frame
 go_loopw [3] (fun t wr=>∃(ds:List Ky) (H1:Nat) (ts:List Dt),Rng wr 114 keyV nodV (some x.1) w2.heap.size c (fun y=>N (z++[y])) ds H1/\ Hid (DR wr W.heap.size t ts)/\ Hid (∀d,d∈ts↔DtM J z d \/∃y∈ds,DtW J (z++[y]) d)/\ Hid (ts.length=mW J z+(ds.map fun y=>cW J (z++[y])).sum)/\ Hid (RowKit.Below W.heap.size W wr)/\ Hid (w2.heap.size<=wr.heap.size)) (fun t wr=>wr.rangeLeft x.1 w2.heap.size);case atStart=>exact⟨[],_,H4,He,Ga,hid (fun d=>by rw [HK.out.2 d,marks_dt];simp),hid (by rw [keys_len Gn.out HK.out];simp),H8,hid (by have:=He.lt;omega)⟩
 case round=>
  clear He H8 Ga;obtain⟨ds,H1,ts,Hp,HR,HM,HL,Hv,G0⟩:=hrel;have Hc:=hid Hp;obtain⟨fa,fn,fc,Ha⟩:=row_form HR.out;subst Ha;go_wp2_with (at_next;refine wpList_next_O _ rfl _ rfl 114 keyKeyed keyV (fun _ _=>keyV_inj) (fun key kl hk=>keyOf_key hk) nodV (some x.1) w2.heap.size c (fun y=>N (z++[y])) ds H1 rfl Hp ?_ ?_)
  ·intro hk;have Hd:∀u∈J,∀y,z++[y] <+:Way u ->y∈ds:=fun u hu y hp=>(hk.2 y).2 (fun hn=>by
    have:=(Gv.out z y).2 ⟨u,hu,hp⟩;rw [show N (z++[y])=none from hn] at this;cases this)
   have HE:Hid ((∀d,d∈ts↔DtW J z d)/\ ts.length=cW J z):=hid ⟨fun d=>by rw [HM.out d,dtW_split Hd],by rw [HL.out,cW_sum z ds hk.1 J Hd]⟩;have Gu:Hid (DR wr w.heap.size (.slice fa fn fc) ts):=hid (HR.out.weak Hh.out.size);clear hk Hp Hd;go_wp2_with fail;go_ret;exact⟨⟨_,ts,rfl,Gu.out,HE.out.1,HE.out.2⟩,keepS Hh.out Hv.out⟩
  ·intro xs xk H5 H6 w5 Hi Gg G3 kl G2 Hk Hj Hn G6 Gf;have Gp:=hid (fun w1 (b1:RowKit.Below v0.heap.size v0 w1)=>HI.out (xs,xk) (H5,H6) Gg w1 b1);have Gs:Hid (∀w9,Rng w9 114 keyV nodV (some x.1) w2.heap.size c (fun y=>N (z++[y])) (ds++[(xs,xk)]) Hi ->w9.rangeLeft x.1 w2.heap.size<wr.rangeLeft x.1 w2.heap.size):=hid (fun w9 h9=>by
    rw [h9.left_eq,Hc.out.left_eq];exact Hj)
   have H7:Hid (RowKit.Below W.heap.size W w5):=hid (Hv.out.grown Hn Hv.out.size (fun k e=>by cases e;exact Gx.out));have Hw:=hid Hk;have Gk:Hid (DR w5 W.heap.size (.slice fa fn fc) ts):=hid (World.ownsRow.kept HR.out Hn (rng_row HR.out Hc.out).1);obtain⟨w6,Hr⟩:∃w6,w5.alloc (.cells #[.map (some H5),.map (some H6)] 65)=w6:=⟨_,rfl⟩;have b6:RowKit.Below w5.heap.size w5 w6:=by rw [<- Hr];exact zO _ _
   have K6:Bx2 w6 w5.heap.size (.map (some H5)) (.map (some H6)):=by rw [<- Hr];exact Bx2.made _ _ _ _
   have Ht:=hid (H7.out.trans (b6.mono H7.out.size));have Gw:Hid (RowKit.Below v0.heap.size v0 w6):=hid (HV.out.trans ((keepS Hh.out Ht.out).mono HV.out.size));have Hx:=hid (Hw.out.same (fun b e=>b6.block b (Hw.out.mlt b e)) (b6.block _ Hw.out.lt));have Gl:=hid (Gk.out.below b6);have Gy:Hid (w2.heap.size<=w6.heap.size):=hid (by have:=G0.out;have:=Hn.size;have:=b6.size;omega);have c0:=K6.c0;have c1:=K6.c1;clear Gg G3 G2 Hp Hk Hj Hn G6 b6 K6;dsimp only [keyV,nodV] at Gf ⊢;go_wp2_with fail;try rw [Hr]
   refine(Gp.out _ Gw.out).mono ?_;rintro e w7 ⟨⟨v7,t7,rfl,Ge,Gh,H3⟩,b7⟩;have Hu:=hid (Ht.out.trans (b7.mono Ht.out.size));have Hy:=hid (Hx.out.same (fun b e=>b7.block b (Hx.out.mlt b e)) (b7.block _ Hx.out.lt));have Hm:=hid (Gl.out.below b7);have Hb:ts.length+t7.length<=1000000000:=by
    have h1:=sum_cW J z ds;have h2:=Hc.out.len;have h3:=H9.out;have h4:ds.length*J.length<=100000*1000:=Nat.mul_le_mul (by omega) (by omega);have h5:=mW_le J z;have h6:=cW_le J (z++[(xs,xk)]);rw [HL.out,H3];omega
   obtain⟨v8,w8,G4,H2,Ho⟩:=dotsApp W.heap.size w6.heap.size (.slice fa fn fc) v7 ts t7 w7 103 Hm.out Ge Hu.out.size Hb;have Gb:Hid (Rng w8 114 keyV nodV (some x.1) w2.heap.size c (fun y=>N (z++[y])) (ds++[(xs,xk)]) Hi):=hid (Hy.out.kept Ho.g (fun b e=>by cases e;exact ob_ne (rng_row Hm.out Hy.out).2) (ob_ne (rng_row Hm.out Hy.out).1));have Gj:Hid (RowKit.Below W.heap.size W w8):=hid (Hu.out.grown Ho.g Hu.out.size (fun k hk=>(World.ownsRow.lt Hm.out k hk).1));have Gr:Hid (∀d,d∈ts++t7↔DtM J z d \/∃y∈ds++[(xs,xk)],DtW J (z++[y]) d):=hid (fun d=>by
    rw [List.mem_append,HM.out d,Gh d];constructor
    ·rintro((h|⟨y,hy,h⟩)|h)
     ·exact .inl h
     ·exact .inr ⟨y,List.mem_append_left _ hy,h⟩
     ·exact .inr ⟨_,by simp,h⟩
    ·rintro(h|⟨y,hy,h⟩)
     ·exact .inl (.inl h)
     ·rcases List.mem_append.1 hy with hy|hy
      ·exact .inl (.inr ⟨y,hy,h⟩)
      ·rw [List.mem_singleton.1 hy] at h;exact .inr h)
   have Gq:Hid ((ts++t7).length=mW J z+((ds++[(xs,xk)]).map fun y=>cW J (z++[y])).sum):=hid (by
    rw [List.length_append,HL.out,H3];simp;omega)
   have Gm:=hid H2;have Gz:Hid (w2.heap.size<=w8.heap.size):=hid (by have:=Gy.out;have:=b7.size;have:=Ho.g.size;omega);obtain⟨ga,gn,gc,Ha⟩:=row_form H2;subst Ha;clear b7 c0 c1 Gf Hr Ge Gh H3 H2 Ho Hb;go_wp2_with (at_builtin;refine wpList_app2 rfl _ _ _ _ rfl G4 rfl rfl rfl ?_);go_roundw;case rel=>exact⟨_,_,ts++t7,Gb.out,Gm,Gr,Gq,Gj,Gz⟩
   case measure=>exact Gs.out w8 Gb.out
theorem dotsC {v0:World}{B c:Nat}{J:List Lf}{N:List Ky ->Option (Nat×Nat)}(H:TJ v0 B J N c)(hc:c<=100000)(hJ:J.length<=1000)(h8:∀x∈J,(Way x).length<=8):
  ∀d z x,z.length+d=8 ->N z=some x ->∀w,RowKit.Below v0.heap.size v0 w ->Calls Tryz.prog 75 #[.agg #[.map (some x.1),.map (some x.2)]] w fun e w'=>(∃v ts,e=.returned v/\ DR w' w.heap.size v ts/\ (∀d,d∈ts↔DtW J z d)/\ ts.length=cW J z)/\ RowKit.Below w.heap.size w w'
 | 0,z,x,hz,hx,w,hw=>dotsStep H hc hJ z x hx (fun y x1 h1=>absurd (H.deep h8 (z++[y]) (by rw [h1];simp)) (by simp;omega)) w hw
 | d+1,z,x,hz,hx,w,hw=>dotsStep H hc hJ z x hx (fun y x1 h1=>dotsC H hc hJ h8 d (z++[y]) x1 (by simp;omega) h1) w hw
theorem dotsNone (w:World):Calls Tryz.prog 75 #[.agg #[.map none,.map none]] w fun e w'=>e=.returned (.slice none 0 0)/\ RowKit.Below w.heap.size w w':=by
 obtain⟨W,hW⟩:∃W,w.alloc (.cells #[.map none,.map none] 65)=W:=⟨_,rfl⟩;have b0:RowKit.Below w.heap.size w W:=by rw [<- hW];exact zO _ _
 have X0:Bx2 W w.heap.size (.map none) (.map none):=by rw [<- hW];exact Bx2.made _ _ _ _
 have Hj:=hid X0;have Hl:=hid b0;have x1:=X0.c1;clear b0 X0;go_enter Tryz.func75,Tryz.ntmps75;go_wp2_with fail;try rw [hW]
 clear hW;refine(Ds.keysFnK none W).mono ?_;rintro e w1 ⟨rfl,He⟩;have b1:RowKit.Below W.heap.size W w1:=by rw [He];exact zO _ _
 have c1:w1.cell? ⟨W.heap.size,0,none⟩=some (.map none):=by rw [He];simp
 have z1:W.heap.size<w1.heap.size:=by rw [He];simp
 have Ho:=hid b1;have Hd:SeqGives Fence.wide 4 Tryz.prog 128 #[.pointer (some ⟨W.heap.size,0,none⟩)] dtV (KeysF (fun _:Dt=>(none:Option ByteArray))) 0 w1:=fun l J W' hW' hJ hY h0=>Ds.keysNilK 4 l W.heap.size J W' hJ ((hW'.cell (p:=⟨W.heap.size,0,none⟩) z1).trans c1) h0;have HS:=hid (Ds.collectK _ _ (enters_of Tryz.func128 (by kernel_rfl) rfl) _ 0 (by unfold maxLen;omega) (by omega) w1 Hd);clear Hd He b1 c1 z1 x1;go_wp2_with fail;refine HS.out.mono ?_;rintro e w2 ⟨Hs,Hr,rfl,hK,Hg,Hb,b2⟩;have e0:Hr=[]:=List.eq_nil_iff_forall_not_mem.2 (fun d hd=>(hK.2 d).1 hd rfl);have e1:Hs=.slice none 0 0:=Hb.2 e0;subst e1;have Hi:=hid (keepS Ho.out b2);have x0:=(Hj.out.below Hi.out Hj.out.lt).c0;have Hn:Hid (MO w2 114 keyV nodV none 0 (fun _:Ky=>(none:Option (Nat×Nat)))):=hid (fun x=>rfl);clear hK Hg Hb e0 b2 HS;go_wp2_with (at_range;refine wpList_range_O _ rfl _ 62 rfl 114 65 keyKeyed Tryz.underlying62 keyV nodV none 0 (fun _:Ky=>(none:Option (Nat×Nat))) rfl Hn.out ?_;intro w0 Hp Hc Ha Hq);have Hh:Hid (RowKit.Below W.heap.size W w0):=hid (keepS Hi.out ⟨Ha.os,Ha.tape,Ha.output,Ha.size,fun k hk=>Ha.block k hk (by simp)⟩);clear Ha Hq x0;try go_frame
 go_loopw [3] (fun t wr=>t=.slice none 0 0/\ (∃Hf,Rng wr 114 keyV nodV none w2.heap.size 0 (fun _:Ky=>(none:Option (Nat×Nat))) [] Hf)/\ Hid (RowKit.Below W.heap.size W wr)) (fun t wr=>0);case atStart=>exact⟨rfl,⟨_,Hc⟩,Hh⟩
 case round=>
  clear Hc Hh;obtain⟨rfl,⟨Hf,Hk⟩,Hm⟩:=hrel;go_wp2_with (at_next;refine wpList_next_O _ rfl _ rfl 114 keyKeyed keyV (fun _ _=>keyV_inj) (fun key kl hk=>keyOf_key hk) nodV none w2.heap.size 0 (fun _:Ky=>(none:Option (Nat×Nat))) [] Hf rfl Hk ?_ ?_);intro hk;clear hk Hk;go_wp2_with fail;go_ret;exact⟨rfl,keepS Hl.out Hm.out⟩
def gI (ks:List Int)(i:Nat):Int:=ks.getD i 0
def ISeg (w:World)(g:Nat)(ks:List Int):Prop:=g<w.heap.size/\∀i,i<ks.length ->w.cell? ⟨g,i,none⟩=some (.int .i64 (gI ks i))
theorem ISeg.below {w w1:World}{g:Nat}{ks:List Int}(h:ISeg w g ks)(hb:RowKit.Below w.heap.size w w1):ISeg w1 g ks:=
 ⟨Nat.lt_of_lt_of_le h.1 hb.size,fun i hi=>(hb.cell (p:=⟨g,_,none⟩) h.1).trans (h.2 i hi)⟩
theorem gI_mem {ks:List Int}{i:Nat}(h:i<ks.length):gI ks i∈ks:=by simp [gI,List.getD,h]
theorem gI_take {ks:List Int}{k:Nat}(h:k<ks.length):ks.take (k+1)=ks.take k++[gI ks k]:=by
 rw [List.take_add_one];simp [gI,List.getD,h]
theorem OpA.tj {w:World}{x0:Nat×Nat}{bm:Nat}{S:Sx}(h:OpA w x0 bm S)(hd:Dis S.l S.l.length):∃N B,TJ w B S.l N (9*S.l.length)/\ N []=some x0:=by
 obtain⟨n,D,G,N,B,h0,h1,h2,h3,h4⟩:=h;refine⟨N,B,⟨h2,fun z y=> ?_,hd⟩,h3⟩;rw [h4];constructor
 ·rintro(e|⟨j,hj,hp⟩)
  ·simp at e
  ·exact⟨gL S.l j,gL_mem.2 ⟨j,hj,rfl⟩,hp⟩
 ·rintro⟨x,hx,hp⟩;obtain⟨j,hj,e⟩:=gL_mem.1 hx;exact .inr ⟨j,hj,by rw [e];exact hp⟩
theorem dotsAny {v0:World}{B c:Nat}{J:List Lf}{N:List Ky ->Option (Nat×Nat)}{x0:Nat×Nat}(H:TJ v0 B J N c)(hr:N []=some x0)(hc:c<=100000)(hJ:J.length<=1000)(h8:∀x∈J,(Way x).length<=8)(z:List Ky)(w:World)(hw:RowKit.Below v0.heap.size v0 w):
  Calls Tryz.prog 75 #[.agg #[.map (mF (N z)),.map (mS (N z))]] w fun e w'=>(∃v ts,e=.returned v/\ DR w' w.heap.size v ts/\ (∀d,d∈ts↔DtW J z d)/\ ts.length=cW J z)/\ RowKit.Below w.heap.size w w':=by
 cases hz:N z with
 | some x=>
  have h:=H.deep h8 z (by rw [hz];simp);exact dotsC H hc hJ h8 (8 - z.length) z x (by omega) hz w hw
 | none=>
  refine(dotsNone w).mono ?_;rintro e w' ⟨rfl,b⟩;have Ha:∀x∈J,¬z <+:Way x:=fun x hx hp=>by
   rcases nil_or_snoc z with e|⟨z',y,e⟩
   ·rw [e,hr] at hz;cases hz
   ·have:=(H.there z' y).2 ⟨x,hx,by rw [<- e];exact hp⟩;rw [<- e,hz] at this;cases this
  refine⟨⟨_,[],rfl,DR.nil _ _,fun d=>⟨fun h=>(by cases h),fun⟨x,hx,hp,_⟩=>absurd hp (Ha x hx)⟩,?_⟩,b⟩;unfold cW;rw [List.filter_eq_nil_iff.2 (fun x hx=>by rw [yes_f (Ha x hx)];simp)];rfl
theorem dotsAtC {v0:World}{B c:Nat}{J:List Lf}{N:List Ky ->Option (Nat×Nat)}{x0:Nat×Nat}(H:TJ v0 B J N c)(hr:N []=some x0)(hc:c<=100000)(hJ:J.length<=1000)(h8:∀x∈J,(Way x).length<=8)
  (p:List ByteArray) (a:Option Addr) (cp:Nat) (bm g kc:Nat) (ks:List Int) (hp:p.length<=1048576) (hs:∀i,(gS p i).size<=1048576) (hk:∀k∈ks,(Lit.int .i64 k).wf=true) (hkl:ks.length<=3) (w:World) (hw:RowKit.Below v0.heap.size v0 w) (hseg:SSeg w a p) (hks:ISeg w g ks):
  Calls Tryz.prog 53 #[.agg #[.map (some x0.1),.map (some x0.2),.map (some bm)],.slice a p.length cp,.slice (some ⟨g,0,none⟩) ks.length kc] w fun e w'=>(∃v ts,e=.returned v/\ DR w' w.heap.size v ts/\ (∀d,d∈ts↔∃k∈ks,DtW J (wayOf p k) d)/\ ts.length=(ks.map fun k=>cW J (wayOf p k)).sum)/\ RowKit.Below w.heap.size w w':=by
 obtain⟨W,hW⟩:∃W,w.alloc (.cells #[.map (some x0.1),.map (some x0.2),.map (some bm)] 69)=W:=⟨_,rfl⟩;have b0:RowKit.Below w.heap.size w W:=by rw [<- hW];exact zO _ _
 have X0:Bx3 W w.heap.size (.map (some x0.1)) (.map (some x0.2)) (.map (some bm)):=by rw [<- hW];exact Bx3.made _ _ _ _ _
 have Hu:=hid X0;have Hh:=hid b0;have HT:=hid H;have HV:=hid hw;have Hr:=hid hr;have H8:=hid hseg;have H2:=hid hks;have H3:=hid hk;have Hs:=hid hs;have HH:=hid (And.intro hc (And.intro hJ h8));clear b0 X0 H hw hr hseg hks hk hs hc hJ h8;go_enter Tryz.func53,Tryz.ntmps53;go_wp2_with fail;try rw [hW]
 clear hW;go_loopw [7,12] (fun t i wr=>∃(k:Nat) (ts:List Dt),k<=ks.length/\ i=.int .i64 k/\ Hid (DR wr W.heap.size t ts)/\ Hid (∀d,d∈ts↔∃k'∈ks.take k,DtW J (wayOf p k') d)/\ Hid (ts.length=((ks.take k).map fun k=>cW J (wayOf p k)).sum)/\ Hid (ts.length<=k*1000)/\ Hid (RowKit.Below W.heap.size W wr)) (fun t i _=>ks.length - (intOf i).toNat);case atStart=>exact⟨0,[],Nat.zero_le _,rfl,hid (DR.nil _ _),hid (fun d=>by simp),hid (by simp),hid (by simp),hid zI⟩
 case round=>
  obtain⟨k,ts,hk,rfl,HR,HM,HL,Hq,HB⟩:=hrel;obtain⟨fa,fn,fc,Ha⟩:=row_form HR.out;subst Ha;by_cases Hf:k<ks.length
  ·have i1:(0:Int)<=(k:Int):=Int.natCast_nonneg _;have i2:(k:Int)<(ks.length:Int):=by omega
   have Hc:=keepS Hh.out HB.out;have q0:=((H2.out.below Hc).2 k Hf);have Hn:=H3.out _ (gI_mem Hf);obtain⟨ki,Hm⟩:∃ki,gI ks k=ki:=⟨_,rfl⟩;rw [Hm] at q0 Hn;have Ht:Hid (ks.take (k+1)=ks.take k++[ki]):=hid (by rw [gI_take Hf,Hm]);have X:=Hu.out.below HB.out Hu.out.lt;have Gb:=X.c0;have Gc:=X.c1;have Gd:=X.c2;have hv:=HV.out.trans (Hc.mono HV.out.size);have Hj:=atC p a cp ki B c N _ wr hp Hs.out Hn (H8.out.below Hc) (HT.out.tre.below hv);rw [Hr.out] at Hj;have Hg:=hid Hj;have Hp:=hid (fun w1 (b1:RowKit.Below wr.heap.size wr w1)=>dotsAny HT.out Hr.out HH.out.1 HH.out.2.1 HH.out.2.2 (wayOf p ki) w1 (hv.trans (b1.mono hv.size)));obtain⟨m0,Hx⟩:∃m,mF (N (wayOf p ki))=m:=⟨_,rfl⟩;obtain⟨m1,Hy⟩:∃m,mS (N (wayOf p ki))=m:=⟨_,rfl⟩;rw [Hx,Hy] at Hg Hp;clear Hm Hn X hv Hj Hc Hx Hy;dsimp only [mF,mS,Option.map] at Hg;go_wp2_with fail;refine Hg.out.mono ?_;rintro e w1 ⟨rfl,b1⟩;have Ho:=hid b1;clear b1 q0 Gb Gc Gd;go_wp2_with fail;refine(Hp.out w1 Ho.out).mono ?_;rintro e w2 ⟨⟨v2,t2,rfl,Hv,Hz,He⟩,b2⟩;have Hi:=keepS Ho.out b2;have Hl:=HR.out.below Hi;have Hd:=HB.out.trans (Hi.mono HB.out.size);have H9:cW J (wayOf p ki)<=1000:=Nat.le_trans (cW_le _ _) HH.out.2.1;obtain⟨v3,w3,Ga,Hk,Hw⟩:=dotsApp W.heap.size w1.heap.size (.slice fa fn fc) v2 ts t2 w2 103 Hl Hv Hd.size (by have:=Hq.out;rw [He];omega);have H0:Hid (RowKit.Below W.heap.size W w3):=hid (Hd.grown Hw.g Hd.size (fun k hk=>(World.ownsRow.lt Hl k hk).1));have H1:=hid Hk;have H6:Hid (∀d,d∈ts++t2↔∃k'∈ks.take (k+1),DtW J (wayOf p k') d):=hid (fun d=>by
    rw [Ht.out,List.mem_append,HM.out d,Hz d];constructor
    ·rintro(⟨k',Hb,h⟩|h)
     ·exact⟨k',List.mem_append_left _ Hb,h⟩
     ·exact⟨ki,by simp,h⟩
    ·rintro⟨k',Hb,h⟩;rcases List.mem_append.1 Hb with Hb|Hb
     ·exact .inl ⟨k',Hb,h⟩
     ·rw [List.mem_singleton.1 Hb] at h;exact .inr h)
   have H4:Hid ((ts++t2).length=((ks.take (k+1)).map fun k=>cW J (wayOf p k)).sum):=hid (by rw [Ht.out,List.length_append,HL.out,He];simp);have H5:Hid ((ts++t2).length<=(k+1)*1000):=hid (by rw [List.length_append,He];have:=Hq.out;omega);obtain⟨ga,gn,gc,Ha⟩:=row_form Hk;subst Ha;clear b2 Hi Hl Hd Hv Hz He Hk Hw H9;go_wp2_with (at_builtin;refine wpList_app2 rfl _ _ _ _ rfl Ga rfl rfl rfl ?_);go_roundw;case rel=>exact⟨k+1,ts++t2,Hf,by go_num,H1,H6,H4,H5,H0⟩
   case measure=>simp [intOf];omega
  ·obtain rfl:k=ks.length:=by omega
   have HE:Hid ((∀d,d∈ts↔∃k∈ks,DtW J (wayOf p k) d)/\ ts.length=(ks.map fun k=>cW J (wayOf p k)).sum):=hid ⟨fun d=>by have:=HM.out d;rw [List.take_length] at this;exact this,by have:=HL.out;rw [List.take_length] at this;exact this⟩;have H7:Hid (DR wr w.heap.size (.slice fa fn fc) ts):=hid (HR.out.weak Hh.out.size);go_wp2_with fail;go_ret;exact⟨⟨_,ts,rfl,H7.out,HE.out.1,HE.out.2⟩,keepS Hh.out HB.out⟩
theorem LB.set {w:World}{lo:Nat}{v:Value}{l:List Lf}(h:LB w lo v l)(q:Addr)(u:Value)(hq:q.block<lo):LB (w.setCell q u) lo v l:=
 h.move (by simp [World.setCell]) (fun b h1 h2=>zH _ _ _ _ (by omega))
theorem FR.setLow {w:World}{B:Nat}{v:Value}{l:List Rn}(h:FR w B v l)(q:Addr)(u:Value)(hq:q.block<B):FR (w.setCell q u) B v l:=
 h.setFar q u (fun e=>by have:=(World.ownsRow.lt h _ e).1;omega)
theorem SOw.of {w:World}{lo:Nat}{a x:Option Addr}{c d:Nat}{S:Sx}{ul:List Rn}(h:LB w lo (.slice a S.l.length c) S.l)(hf:FR w lo (.slice x S.n d) ul)(hn:S.n=ul.length)(hR:S.R=fun i=>(gR ul i).1)(hF:S.F=fun i=>(gR ul i).2.1)(hT:S.T=fun i=>(gR ul i).2.2)(hlo:lo<=w.heap.size):SOw w lo w.heap.size a x d S:=by
 obtain⟨P,Q,h1,h2⟩:=h;refine⟨fun w' k1 k2=>⟨?_,?_⟩,hlo,Nat.le_refl _⟩
 ·have hL:=h1.move k1 k2;rcases hL.row.2 with ⟨e,e0⟩|⟨g,Hc,Hd,e,_⟩
  ·exact .inl e0
  ·have Ha:=hL;rw [e] at Ha;injection e with e1 e2 e3;rw [e1];exact Ha.lcap rfl
 ·have Hb:FR w' lo (.slice x S.n d) ul:=own_at5 hf (fun q hq=>k2 q (World.ownsRow.lt hf q hq).1 (World.ownsRow.lt hf q hq).2);obtain⟨a',c',e,s,_,_⟩:=Hb.fs;injection e with e1 e2 e3;subst e1;rw [hn,hR,hF,hT];exact s.rseg
theorem SOw.emp (w:World)(a x:Option Addr)(d lo:Nat)(hlo:lo<=w.heap.size):SOw w lo w.heap.size a x d Sx.mt:=SOw.mt w Sx.mt rfl rfl lo _ ⟨hlo,Nat.le_refl _⟩ a x d
theorem stateC {z0:Nat×Nat}{bd:Nat}{J:List Lf}{ul:List Rn}{R F T:Nat ->Int}{m:Nat}(w:World)(h:LvJ w z0 bd J ul)(hlv:LvOk R F T m J J.length)(hbd:LvB J):
  Calls Tryz.prog 82 #[.agg #[.map (some z0.1),.map (some z0.2),.map (some bd)]] w fun e w'=>(∃a c x d,e=.returned (.agg #[.slice a J.length c,.slice x ul.length d])/\ LB w' (w.heap.size+2) (.slice a J.length c) J/\ FR w' (w.heap.size+2) (.slice x ul.length d) ul/\ w.heap.size+2<=w'.heap.size)/\ Below w.heap.size w w':=by
 obtain⟨W,hW⟩:∃W,(w.alloc (.cells #[.map (some z0.1),.map (some z0.2),.map (some bd)] 69)).alloc (.cells #[.slice none 0 0,.slice none 0 0] 28)=W:=⟨_,rfl⟩;have b0:Below w.heap.size w W:=by rw [<- hW];exact below2 _ _ _
 have X0:Bx3 W w.heap.size (.map (some z0.1)) (.map (some z0.2)) (.map (some bd)):=by rw [<- hW];exact(Bx3.made _ _ _ _ _).below (zO _ _) (Bx3.made _ _ _ _ _).lt
 have R0:Bx2 W (w.heap.size+1) (.slice none 0 0) (.slice none 0 0):=by rw [<- hW];simpa using Bx2.made (w.alloc (.cells #[.map (some z0.1),.map (some z0.2),.map (some bd)] 69)) (.slice none 0 0) (.slice none 0 0) 28
 have zW:W.heap.size=w.heap.size+2:=by rw [<- hW];simp
 obtain⟨N,B,c,n,D,G,L,h1,h2,h3,h4,h5,h6⟩:=h.below b0;have Hi:=h1.tj hbd.dis;have Hf:Hid (∀w1,Below W.heap.size W w1 ->Calls Tryz.prog 111 #[.agg #[.map (some z0.1),.map (some z0.2)],.slice none 0 0,.slice none 0 0] w1 fun e w'=>(∃a c,e=.returned (.slice a J.length c)/\ LB w' W.heap.size (.slice a J.length c) J)/\ Below w1.heap.size w1 w'):=hid (fun w1 b1=>by
  have:=appendLeavesN J W B c N (by simpa using h1.tre) (Hi.nki (by rw [h1.root];simp)) h2 hlv hbd 8 [] rfl (by omega) (.slice none 0 0) [] (.slice none 0 0) w1 b1 (LB.nil w1 _) (.inl ⟨rfl,rfl⟩) (fun g hg=>by cases hg) (by rw [wL_all hlv];have:=hbd.len;simp;omega);rw [show wayOf [] 3=([]:List Ky) from rfl,h1.root] at this;refine this.mono ?_;rintro e w' ⟨v,rfl,lb,g⟩;rw [wL_all hlv,List.nil_append] at lb;obtain⟨a,c,rfl⟩:=lb.form;exact⟨⟨a,c,rfl,lb⟩,g.below zL (fun k hk=>by cases hk)⟩)
 have Hg:Hid (∀w1,Below W.heap.size W w1 ->Calls Tryz.prog 112 #[.map (some bd)] w1 fun e w'=>(∃x d,e=.returned (.agg #[.slice x ul.length d])/\ FR w' W.heap.size (.slice x ul.length d) ul)/\ Below w1.heap.size w1 w'):=hid (fun w1 b1=>by
  have:=contextM2 (h3.below b1) h5 h6;rw [h4] at this;refine this.mono ?_;rintro e w' ⟨v,rfl,hf,b⟩;obtain⟨a,c,rfl,_⟩:=hf.fs;exact⟨⟨a,c,rfl,hf.weak b1.size⟩,b⟩)
 have HX:=hid X0;have HR:=hid R0;have Hj:=hid b0;have He:=hid zW;have Hb:Hid (∀w',Below W.heap.size W w' ->(w'.cell? ⟨w.heap.size,0,none⟩=some (.map (some z0.1))/\ w'.cell? ⟨w.heap.size,1,none⟩=some (.map (some z0.2))/\ w'.cell? ⟨w.heap.size,2,none⟩=some (.map (some bd)))):=hid (fun w' b=>by
  have A1:=HX.out.below b HX.out.lt;exact⟨A1.c0,A1.c1,A1.c2⟩)
 clear b0 X0 R0 zW h h1 h2 h3 h4 h5 h6 Hi hlv hbd;go_enter Tryz.func82,Tryz.ntmps82;go_wp2_with fail;try rw [hW]
 clear hW;refine zR (S:=fun w'=>w'.cell? ⟨w.heap.size,0,none⟩=some (.map (some z0.1))/\ w'.cell? ⟨w.heap.size,1,none⟩=some (.map (some z0.2))/\ w'.cell? ⟨w.heap.size,2,none⟩=some (.map (some bd))) (Hb.out _ zI.drew) (fun qh=> ?_);refine tZ 0 3 ?_;refine tZ 1 4 ?_;refine tZ 3 6 ?_;refine tZ 4 7 ?_;refine cZ 2 ?_;intro K hK;go_simp;refine(Hf.out _ zI.drew).mono ?_;rintro e w1 ⟨⟨a,c,rfl,lb⟩,b1⟩;have Hc:Below W.heap.size W w1:=⟨b1.os,b1.tape,b1.output,b1.size,b1.block⟩;have Hp:=hid lb;clear lb;refine hK.out _ _ (Hb.out _ Hc) (fun qh=> ?_);clear hK K;try simp only [zP]
 refine cZ 5 ?_;intro K hK;go_simp;refine(Hg.out _ Hc).mono ?_;rintro e w2 ⟨⟨x,d,rfl,hf⟩,b2⟩;have Ha:=keepS Hc b2;have Hm:=hid hf;have Hn:=hid (Hp.out.below b2);have R2:=HR.out.below Ha HR.out.lt;clear hf;refine hK.out _ _ (Hb.out _ Ha) (fun qh=> ?_);clear hK K;try simp only [zP]
 refine tZ 6 9 ?_;have t0:=R2.c0;have t1:=R2.c1;have tf:=R2.f;have Hh:=hid (R2.set (.slice a J.length c) (.slice x ul.length d));have Hd:=hid (((HX.out.below Ha HX.out.lt).far (grownSet w2 ⟨w.heap.size+1,0,none⟩ (.slice a J.length c)) (by show w.heap.size≠w.heap.size+1;omega)).far (grownSet _ ⟨w.heap.size+1,1,none⟩ (.slice x ul.length d)) (by show w.heap.size≠w.heap.size+1;omega));have Hk:=hid (keepS Hj.out Ha);have Hq:Hid (w.heap.size+2<=w2.heap.size):=hid (by have h1:=He.out;have h2:=Ha.size;omega);have Ho:Hid (LB ((w2.setCell ⟨w.heap.size+1,0,none⟩ (.slice a J.length c)).setCell ⟨w.heap.size+1,1,none⟩ (.slice x ul.length d)) (w.heap.size+2) (.slice a J.length c) J):=hid (by
  have h1:=Hn.out;rw [He.out] at h1;exact(h1.set _ _ (by show w.heap.size+1<w.heap.size+2;omega)).set _ _ (by show w.heap.size+1<w.heap.size+2;omega))
 have Hl:Hid (FR ((w2.setCell ⟨w.heap.size+1,0,none⟩ (.slice a J.length c)).setCell ⟨w.heap.size+1,1,none⟩ (.slice x ul.length d)) (w.heap.size+2) (.slice x ul.length d) ul):=hid (by
  have h1:=Hm.out;rw [He.out] at h1;exact(h1.setLow _ _ (by show w.heap.size+1<w.heap.size+2;omega)).setLow _ _ (by show w.heap.size+1<w.heap.size+2;omega))
 refine cZ 7 ?_;intro K hK;go_simp;refine hK.out _ _ ⟨Hd.out.c0,Hd.out.c1,Hd.out.c2⟩ (fun qh=> ?_);clear hK K;try simp only [zP]
 refine zD ?_;clear qh b1 Hc b2 Ha R2 t0 t1 tf Hb Hf Hg;go_wp2_with fail;have s0:=Hh.out.c0;have s1:=Hh.out.c1;refine zF (v:=.agg #[.slice a J.length c,.slice x ul.length d]) (by simp [results,Tryz.results82,go_sem,s0,s1]) ⟨⟨a,c,x,d,rfl,Ho.out,Hl.out,by simp [World.setCell];have:=Hq.out;omega⟩,?_⟩;exact(Hk.out.setCell (by simp) _).setCell (by simp) _
theorem openB (a x:Option Addr)(c d:Nat)(S:Sx)(w:World)(hm:S.Sm)(hi:∀i,LfI (gL S.l i))(h:SAt w a x S):
  Calls Tryz.prog 32 #[.agg #[.slice a S.l.length c,.slice x S.n d]] w fun e w'=>(∃u0 u1 u2,e=.returned (.tuple #[.agg #[.map u0,.map u1,.map u2],.bool (stB S)])/\ (stB S=true ->∃x0 bm,u0=some (Prod.fst x0)/\ u1=some (Prod.snd x0)/\ u2=some bm/\ OpA w' x0 bm S))/\ Below w.heap.size w w':=by
 cases hb:stB S with
 | true=>
  refine(openStateK a c S.l x S.n d S.R S.F S.T w hm.l1 hm.p1 hi hm.n1 h.lf h.rn (stB_t hb)).mono ?_;rintro e w' ⟨⟨x0,bm,D,G,N,B,rfl,h1,_,_,_,h2,h3,h4⟩,b⟩;exact⟨⟨_,_,_,rfl,fun _=>⟨x0,bm,rfl,rfl,rfl,S.n,D,G,N,B,(stB_t hb).w.1.2,h1,h2,h3,h4⟩⟩,b⟩
 | false=>
  refine(openStateNo a c S.l x S.n d S.R S.F S.T w hm.l1 hm.p1 hi hm.n1 h.lf h.rn (stB_f hb)).mono ?_;rintro e w' ⟨rfl,b⟩;exact⟨⟨_,_,_,rfl,fun h=>by cases h⟩,b⟩
def DOk (ds:List Dt):Prop:=∀d∈ds,(0<=d.1/\ d.1<8)/\ 1<=d.2/\ d.2<=1000000000
theorem RdI.bd {L:Int ->List (Int×Int)}{ds:List Dt}(h:RdI L ds)(r:Int):∀q∈L r,0<=q.2/\ q.2<=1000000000:=fun q hq=>by
 have:=(h.srt r).2 q hq;omega
theorem runsOfC (a:Option Addr)(cp:Nat)(ds:List Dt)(w:World)(hlen:ds.length<=2000)(hok:DOk ds)(h:DSeg w a ds):
  Calls Tryz.prog 55 #[.slice a ds.length cp] w fun e w'=>(∃bm n D G L,e=.returned (.map (some bm))/\ n<=2000/\ GrpAt w' bm n D G L/\ (∀r,Srt (L r))/\ (∀r x,In (L r) x↔(r,x)∈ds)/\ (∀r,(L r).length<=2000)/\ w.heap.size<=bm)/\ RowKit.Below w.heap.size w w':=by
 have Go:=@run_makeMap Tryz.prog;obtain⟨w1,Hr⟩:∃w1,w.alloc (.map #[] 0)=w1:=⟨_,rfl⟩;have b1:RowKit.Below w.heap.size w w1:=by rw [<- Hr];exact zO _ _
 have H0:Hid (GrpAt w1 w.heap.size 0 (.map []) (fun _=> .slice none 0 0) (fun _=>[])):=hid (by rw [<- Hr];exact grp_made w);have Gm:Hid (w1.heap.size=w.heap.size+1):=hid (by rw [<- Hr];simp);have H9:=hid b1;have H2:=hid (h.below b1);have Gg:=hid hok;clear b1 h hok;go_enter Tryz.func55,Tryz.ntmps55;go_wp2_with fail;try rw [Hr]
 refine(valuesFnD a ds.length cp w1).mono ?_;rintro e w2 ⟨rfl,Hv⟩;have b2:RowKit.Below w1.heap.size w1 w2:=by rw [Hv];exact zO _ _
 have c2:w2.cell? ⟨w1.heap.size,0,none⟩=some (.slice a ds.length cp):=by rw [Hv];simp
 have z2:w1.heap.size<w2.heap.size:=by rw [Hv];simp
 have H3:=hid (sortedFuncG _ _ (enters_of Tryz.func106 (by kernel_rfl) rfl) ds.length (fun ss=>ss=ds) w2 (by omega) (fun ss e=>by rw [e];exact Nat.le_refl _) (valuesGivesD w1.heap.size cp a ds w2 (by omega) z2 c2 (H2.out.below b2)));have Hy:=hid (keepS H9.out b2);have Hj:=hid b2;clear Hv b2 c2 Hr Go;go_wp2_with fail;refine H3.out.mono ?_;rintro e w3 ⟨v,ts,rfl,⟨ss,rfl,Hc⟩,Hf,Gt,Hh,b3⟩;obtain⟨ta,tc,rfl,_,Gp,Gq⟩:=own_dseg Hh;have Hl:=hid Hh;have Hz:=hid (Hy.out.trans (b3.mono Hy.out.size));have H1:=hid ((H0.out.below Hj.out).below b3);have HP:=hid Hc;have Gj:=hid Hf;have Gr:ts.length<=2000:=by rw [Hc.length_eq];exact hlen
 have Gh:Hid (DOk ts):=hid (fun d hd=>Gg.out d (Hc.mem_iff.1 hd));have H5:Hid (w.heap.size<w3.heap.size):=hid (by have:=Gm.out;have:=Hj.out.size;have:=b3.size;omega);clear Hh b3 Hc Hf H3 H0 H2;go_wp2_with fail;go_loopw [11] (fun i wr=>∃(k:Nat) (D:DataW Value) (G:Int ->Value) (L:Int ->List (Int×Int)),k<=ts.length/\ i=.int .i64 k/\ Hid (GrpAt wr w.heap.size k D G L)/\ Hid (RdI L (ts.take k))/\ Hid (RowKit.Below w.heap.size w wr)/\ Hid (wr.ownsRow w2.heap.size 58 2 (.slice ta ts.length tc) ts.length (Ds.kRow ts))/\ Hid (w.heap.size<wr.heap.size)) (fun i _=>ts.length - (intOf i).toNat);case atStart=>exact⟨0,_,_,_,Nat.zero_le _,rfl,H1,hid (by simpa using RdI.nil),Hz,Hl,H5⟩
 case round=>
  clear H1 Hz Hl H5;obtain⟨k,D,G,L,hk,rfl,HG,HR,HB,HO,HZ⟩:=hrel;by_cases Hg:k<ts.length
  ·obtain⟨r,q,hd⟩:∃r q,gD ts k=(r,q):=⟨_,_,rfl⟩;obtain⟨a',c',e',Hq,_,_⟩:=own_dseg HO.out;injection e' with e1 e2 e3;subst e1 e3;obtain⟨g,rfl,hg,hc⟩:∃g,ta=some ⟨g,0,none⟩/\ g<wr.heap.size/\∀i,i<ts.length ->wr.cell? ⟨g,i*2,none⟩=some (.int .i64 (gD ts i).1)/\ wr.cell? ⟨g,i*2+1,none⟩=some (.int .i64 (gD ts i).2):=by
    rcases Hq with h|h
    ·omega
    ·exact h
   have q0:=(hc k Hg).1;have q1:=(hc k Hg).2;rw [hd] at q0 q1;dsimp only at q0 q1;have Ht:=Gh.out _ (gD_mem Hg);rw [hd] at Ht;dsimp only at Ht;have H7:(Lit.int .i64 r).wf=true:=wfI (by omega) (by omega);have Gk:Hid (ts.take (k+1)=ts.take k++[(r,q)]):=hid (by rw [gD_take Hg,hd]);have Ge:Hid (∀e∈ts.take k,e.1=r ->e.2<=q):=hid (fun e he e1=>by
    obtain⟨j,hj,ej⟩:=List.getElem_of_mem he;rw [List.length_take] at hj;rw [List.getElem_take] at ej;have hs:=List.pairwise_iff_getElem.1 Gj.out j k (by omega) Hg (by omega);have ek:ts[k]=(r,q):=by rw [<- hd];simp [gD,List.getD,Hg]
    rw [ej,ek] at hs;exact cmpDt_le (x:=e) (y:=(r,q)) hs e1)
   obtain⟨W1,Hm⟩:∃W1,wr.alloc (.cells #[.int .i64 r,.int .i64 q] 58)=W1:=⟨_,rfl⟩;have bW:RowKit.Below wr.heap.size wr W1:=by rw [<- Hm];exact zO _ _
   have zW:W1.heap.size=wr.heap.size+1:=by rw [<- Hm];simp
   have X1:Bx2 W1 wr.heap.size (.int .i64 r) (.int .i64 q):=by rw [<- Hm];exact Bx2.made _ _ _ _
   have r0:=X1.c0;have r1:=X1.c1;have g1:=HG.out.below bW.drew;have H6:=g1.look r H7;obtain⟨G0,Hi⟩:∃G0,G r=G0:=⟨_,rfl⟩;rw [Hi] at H6;have Hu:SR W1.drew (w.heap.size+1) G0 (L r):=by rw [<- Hi];exact g1.rows r
   obtain⟨s0,s1,s2,Ho⟩:∃s0 s1 s2,G0=.slice s0 s1 s2:=row_form Hu;subst Ho;have H8:=hid (appendSpan (w.heap.size+1) (.slice s0 s1 s2) (L r) q q W1.drew (by have:=HZ.out;show w.heap.size+1<=W1.heap.size;omega) (by have:=HR.out.len r;rw [List.length_take] at this;omega) Hu (HR.out.bd r));have Hn:some wr.heap.size≠(Value.slice s0 s1 s2).ownBlock:=fun e=>by
    have:=((HG.out.rows r).lt _ (by rw [Hi];exact e.symm)).2;omega
   have Hp:some w.heap.size≠(Value.slice s0 s1 s2).ownBlock:=fun e=>by
    have:=((HG.out.rows r).lt _ (by rw [Hi];exact e.symm)).1;omega
   have Hk:=hid g1.own;have Hw:=hid bW.drew;have Gc:=hid Hi;have H4:=hid Hu;have Gl:=hid H7;have Hs:=hid (And.intro Hn Hp);have Gs:=hid X1;have Gb:=hid Ht;have Hx:=hid zW;have i1:(0:Int)<=(k:Int):=Int.natCast_nonneg _;have i2:(k:Int)<(ts.length:Int):=by omega
   clear Hq hc hd Ht Hu bW g1 X1 Hi Hn Hp;go_wp2_with fail;try rw [Hm]
   clear q0 q1 Hm;refine zR (S:=fun w'=>w'.cell? ⟨wr.heap.size,0,none⟩=some (.int .i64 r)/\ w'.cell? ⟨wr.heap.size,1,none⟩=some (.int .i64 q)) ⟨r0,r1⟩ (fun qh=> ?_);refine tZ 0 15 ?_;refine tZ 1 16 ?_;refine tZ 2 17 ?_;refine tZ 3 18 ?_;refine tZ 4 19 ?_;refine tZ 5 20 ?_;refine tZ 7 22 ?_;refine tZ 8 23 ?_;refine tZ 9 24 ?_;refine tZ 10 25 ?_;refine tZ 11 26 ?_;refine cZ 6 ?_;intro K hK;go_simp;refine hK.out _ _ ⟨r0,r1⟩ (fun qh=> ?_);clear hK K;try simp only [zP]
   refine cZ 12 ?_;intro K hK;go_simp;refine H8.out.mono ?_;rintro e w5 ⟨v',rfl,Hd,Ha⟩;have BD:w5.cell? ⟨wr.heap.size,0,none⟩=some (.int .i64 r)/\ w5.cell? ⟨wr.heap.size,1,none⟩=some (.int .i64 q):=⟨Ha.g.cell r0 Hs.out.1,Ha.g.cell r1 Hs.out.1⟩;refine hK.out _ _ ⟨BD.1,BD.2⟩ (fun qh=> ?_);clear hK K;try simp only [zP]
   refine cZ 13 ?_;intro K hK;rw [if_pos (by rfl)];refine wp_put_own _ _ _ _ _ (by rfl) 3 139 (int_keyed Tryz.underlying3) Tryz.underlying67 rawR w.heap.size k D (by rfl) (Hk.out.kept Ha.g Hs.out.2) (by unfold maxLen;omega) (.int .i64 r) v' (kI r) (by rfl) (by rfl) (keyOf_int_mk Tryz.underlying3 Gl.out) (.held v') [] (rawR_own Hd) ?_;intro w6 He Hb;have BE:w6.cell? ⟨wr.heap.size,0,none⟩=some (.int .i64 r)/\ w6.cell? ⟨wr.heap.size,1,none⟩=some (.int .i64 q):=⟨Hb.cell BD.1 (by have:=HZ.out;simp;omega),Hb.cell BD.2 (by have:=HZ.out;simp;omega)⟩;refine hK.out _ _ ⟨BE.1,BE.2⟩ (fun qh=> ?_);clear hK K;try simp only [zP]
   refine zD ?_;have Gd:Hid (GrpAt w6 w.heap.size (k+1) (D.put (kI r) (.held v')) (upd G r v') (upd L r (appS (L r) (q,q)))):=hid (HG.out.stepS Hw.out Hd (appS_len _ _).2 (by rw [Gc.out];exact Ha) He Hb);have Gi:Hid (RdI (upd L r (appS (L r) (q,q))) (ts.take (k+1))):=hid (by
    rw [Gk.out];exact HR.out.step (d:=(r,q)) Gb.out.2 Ge.out)
   have Gf:Hid (w6.ownsRow w2.heap.size 58 2 (.slice (some ⟨g,0,none⟩) ts.length tc) ts.length (Ds.kRow ts)):=hid (by
    have o1:=row_below HO.out Hw.out;have o2:=o1.kept Ha.g (rows_ne o1 H4.out (by decide));exact o2.kept Hb (row_map o2 (Hk.out.kept Ha.g Hs.out.2)))
   have Ga:=hid (((HB.out.trans (Hw.out.mono HB.out.size)).grown Ha.g (by have:=HZ.out;show w.heap.size<=W1.heap.size;have:=Hx.out;omega) (fun k hk=>by have:=(World.ownsRow.lt H4.out k hk).1;omega)).grown Hb (by have h1:=Ha.g.size;have h2:=HZ.out;have h3:=Hx.out;have h4:W1.drew.heap.size=W1.heap.size:=rfl;omega) (fun k hk=>by injection hk with hk;omega));have Gn:Hid (w.heap.size<w6.heap.size):=hid (by have h1:=Ha.g.size;have h2:=HZ.out;have h3:=Hx.out;have h4:W1.drew.heap.size=W1.heap.size:=rfl;have h5:=Hb.size;omega);clear qh BD BE Hd Ha He Hb H6;go_wp2_with fail;go_roundw;case rel=>exact⟨k+1,_,_,_,Hg,by go_num,Gd,Gi,Ga,Gf,Gn⟩
   case measure=>simp [intOf];omega
  ·obtain rfl:k=ts.length:=by omega
   have HE:Hid ((∀r x,In (L r) x↔(r,x)∈ss)/\∀r,(L r).length<=2000):=hid ⟨fun r x=>by
    have:=HR.out.mem r x;rw [List.take_length,HP.out.mem_iff] at this;exact this,fun r=>by have:=HR.out.len r;rw [List.take_length] at this;omega⟩
   go_wp2_with fail;go_ret;exact⟨⟨w.heap.size,ts.length,D,G,L,rfl,Gr,HG.out,HR.out.srt,HE.out.1,HE.out.2,Nat.le_refl _⟩,HB.out⟩
theorem stw_lvB {S:Sx}(h:StW S.R S.F S.T S.n S.l):LvB S.l:=
 ⟨fun i hi=>(st_bd h _ (gL_mem.2 ⟨i,hi,rfl⟩)).1,fun i hi=>(st_bd h _ (gL_mem.2 ⟨i,hi,rfl⟩)).2.1,fun i hi=>(st_bd h _ (gL_mem.2 ⟨i,hi,rfl⟩)).2.2.1,h.2.1,h.2.2.2⟩
theorem changeC {x0 y0:Nat×Nat}{bm bm':Nat}{S D:Sx}{ul:List Rn}(w:World)(h:OpA w x0 bm S)(h':OpA w y0 bm' D)(hv:LvJ w y0 bm' D.l ul)(hD:D=mkS D.l ul)(hs:StW S.R S.F S.T S.n S.l)(Ha:StW D.R D.F D.T D.n D.l):
  Calls Tryz.prog 57 #[.agg #[.map (some x0.1),.map (some x0.2),.map (some bm)],.agg #[.map (some y0.1),.map (some y0.2),.map (some bm')]] w fun e w'=>∃a c x d a' c' x' d' mid,e=.returned (.tuple #[.agg #[.slice a (chX S D).l.length c,.slice x (chX S D).n d],.agg #[.slice a' (chY S D).l.length c',.slice x' (chY S D).n d'],.int .i64 (chC S D)])/\ SOw w' w.heap.size mid a x d (chX S D)/\ SOw w' mid w'.heap.size a' x' d' (chY S D)/\ Below w.heap.size w w':=by
 obtain⟨W,hW⟩:∃W,(((w.alloc (.cells #[.map (some x0.1),.map (some x0.2),.map (some bm)] 69)).alloc (.cells #[.map (some y0.1),.map (some y0.2),.map (some bm')] 69)).alloc (.cells #[.slice none 0 0,.slice none 0 0] 28)).alloc (.cells #[.slice none 0 0,.slice none 0 0] 28)=W:=⟨_,rfl⟩;have b0:Below w.heap.size w W:=by rw [<- hW];exact((below2 _ _ _).alloc (by simp;omega) _).alloc (by simp;omega) _
 have zW:W.heap.size=w.heap.size+4:=by rw [<- hW];simp
 have al:∀(v:World) (o:Obj),Below v.heap.size v (v.alloc o):=fun v o=>zO _ _;have A0:Bx3 W w.heap.size (.map (some x0.1)) (.map (some x0.2)) (.map (some bm)):=by
  rw [<- hW];exact(((Bx3.made w _ _ _ _).below (al _ _) (by simp)).below (al _ _) (by simp;try omega)).below (al _ _) (by simp;try omega)
 have B0:Bx3 W (w.heap.size+1) (.map (some y0.1)) (.map (some y0.2)) (.map (some bm')):=by
  rw [<- hW];have:=Bx3.made (w.alloc (.cells #[.map (some x0.1),.map (some x0.2),.map (some bm)] 69)) (.map (some y0.1)) (.map (some y0.2)) (.map (some bm')) 69;exact((by simpa using this:Bx3 _ (w.heap.size+1) _ _ _).below (al _ _) (by simp)).below (al _ _) (by simp;try omega)
 have R0:Bx2 W (w.heap.size+1+1) (.slice none 0 0) (.slice none 0 0):=by
  rw [<- hW];have:=Bx2.made ((w.alloc (.cells #[.map (some x0.1),.map (some x0.2),.map (some bm)] 69)).alloc (.cells #[.map (some y0.1),.map (some y0.2),.map (some bm')] 69)) (.slice none 0 0) (.slice none 0 0) 28;exact(by simpa using this:Bx2 _ (w.heap.size+1+1) _ _).allocs _
 have Q0:Bx2 W (w.heap.size+1+1+1) (.slice none 0 0) (.slice none 0 0):=by
  rw [<- hW];simpa using Bx2.made (((w.alloc (.cells #[.map (some x0.1),.map (some x0.2),.map (some bm)] 69)).alloc (.cells #[.map (some y0.1),.map (some y0.2),.map (some bm')] 69)).alloc (.cells #[.slice none 0 0,.slice none 0 0] 28)) (.slice none 0 0) (.slice none 0 0) 28
 have Gp:=hid (joinLiveC W (h.below b0) (h'.below b0) hs Ha);have Gs:Hid ((jnS S D).l.length<=2000/\ (jnU S D).length<=4000):=hid (jn_len hs Ha);have Hs:=hid (And.intro (jn_dis hs Ha) (And.intro (fun x hx=>(jn_bd hs Ha x hx).2.2.2) (And.intro (jn_lv hs Ha) (fun hl=>jn_lvB hs Ha hl))));have Hr:=hid (And.intro Ha.2.2.2 (And.intro (fun x hx=>(st_bd Ha x hx).2.2.2) (And.intro Ha.2.2.1 (stw_lvB Ha))));have Hi:Hid (D.l.length<=1000/\ ul.length<=2000/\ D.n=ul.length):=hid (by
  have e:D.n=ul.length:=by rw [hD];rfl
  exact⟨Ha.2.1,by rw [<- e];exact Ha.1.2,e⟩)
 have Gr:=hid (hv.below b0);have H4:=hid hD;have G8:=hid A0;have Ho:=hid B0;have Hh:=hid R0;have Hg:=hid Q0;have H2:=hid b0;have G5:=hid zW;have k0:=A0.c0;have k1:=A0.c1;have k2:=A0.c2;have l0:=B0.c0;have l1:=B0.c1;have l2:=B0.c2;clear b0 zW A0 B0 R0 Q0 h h' hv hD hs Ha al;go_enter Tryz.func57,Tryz.ntmps57;go_wp2_with fail;try rw [hW]
 clear hW;refine Gp.out.mono ?_;rintro e w1 ⟨⟨z0,bd,rfl,lv⟩,b1⟩;obtain⟨w2,Hz⟩:∃w2,w1.alloc (.cells #[.map (some z0.1),.map (some z0.2),.map (some bd)] 69)=w2:=⟨_,rfl⟩;have b2:Below w1.heap.size w1 w2:=by rw [<- Hz];exact zO _ _
 have X2:Bx3 w2 w1.heap.size (.map (some z0.1)) (.map (some z0.2)) (.map (some bd)):=by rw [<- Hz];exact Bx3.made _ _ _ _ _
 have Hw:=hid X2;have Gt:=hid (lv.below b2);have G3:=hid (keepS b1 b2);have G4:Hid (W.heap.size<=w1.heap.size):=hid b1.size;have Hv:=hid (withinC w2 Gt.out Hs.out.1 Hs.out.2.1 (by have:=Gs.out;omega) (by have:=Gs.out;omega));have Gn:Hid ((decide ((jnS S D).l.length<=1000) && decide ((jnU S D).length<=1000))=jnF S D):=hid rfl;rw [Gn.out] at Hv;obtain⟨B1,Gf⟩:∃B,jnF S D=B:=⟨_,rfl⟩;rw [Gf] at Hv;have H6:=hid Gf;have e0:=X2.c0;have e1:=X2.c1;have e2:=X2.c2;clear lv b1 b2 X2 k0 k1 k2 l0 l1 l2 Gp Gn Gf;go_wp2_with fail;try rw [Hz]
 clear Hz;refine Hv.out.mono ?_;rintro e w3 ⟨rfl,b3⟩;have Hj:=hid (keepS G3.out b3);have Hd:=hid b3;clear b3 e0 e1 e2 Hv;cases B1 with
 | false=>
  have HZ:=hid (ch_f (S:=S) (D:=D) (by unfold chF;rw [H6.out];rfl));have R3:=Hh.out.below Hj.out Hh.out.lt;have Q3:=Hg.out.below Hj.out Hg.out.lt;have He:=hid (keepS H2.out Hj.out);have r0:=R3.c0;have r1:=R3.c1;have f0:=R3.f 0;have f1:=R3.f 1;have HC:=hid (R3.set (.slice none 0 0) (.slice none 0 0));have Q4:=(Q3.setAt ⟨w.heap.size+1+1,0,none⟩ (.slice none 0 0) (by show w.heap.size+1+1≠w.heap.size+1+1+1;omega)).setAt ⟨w.heap.size+1+1,1,none⟩ (.slice none 0 0) (by show w.heap.size+1+1≠w.heap.size+1+1+1;omega);have q0:=Q4.c0;have q1:=Q4.c1;have G6:=Q4.f 0;have G7:=Q4.f 1;have Hm:=hid (Q4.set (.slice none 0 0) (.slice none 0 0));have Hl:=hid ((HC.out.setAt ⟨w.heap.size+1+1+1,0,none⟩ (.slice none 0 0) (by show w.heap.size+1+1+1≠w.heap.size+1+1;omega)).setAt ⟨w.heap.size+1+1+1,1,none⟩ (.slice none 0 0) (by show w.heap.size+1+1+1≠w.heap.size+1+1;omega));clear R3 Q3 Q4;go_wp2_with fail;have s0:=Hl.out.c0;have s1:=Hl.out.c1;have s2:=Hm.out.c0;have s3:=Hm.out.c1;refine zF (v:=.tuple #[.agg #[.slice none 0 0,.slice none 0 0],.agg #[.slice none 0 0,.slice none 0 0],.int .i64 4]) (by simp [results,Tryz.results57,go_sem,s0,s1,s2,s3]) ⟨none,0,none,0,none,0,none,0,w.heap.size,by rw [HZ.out.1,HZ.out.2.1,HZ.out.2.2];rfl,?_,?_,?_⟩
  ·rw [HZ.out.1];exact SOw.mt _ Sx.mt rfl rfl _ _ ⟨Nat.le_refl _,by simp [World.setCell];exact He.out.size⟩ _ _ _
  ·rw [HZ.out.2.1];exact SOw.emp _ _ _ _ _ (by simp [World.setCell];exact He.out.size)
  ·exact(((He.out.setCell (by simp;omega) _).setCell (by simp;omega) _).setCell (by simp;omega) _).setCell (by simp;omega) _
 | true=>
  have Ga:=hid (withinC w3 (Gr.out.below Hj.out) Hr.out.1 Hr.out.2.1 (by have:=Hi.out;omega) (by have:=Hi.out;omega));obtain⟨B2,Gg⟩:∃B,(decide (D.l.length<=1000) && decide (ul.length<=1000))=B:=⟨_,rfl⟩;rw [Gg] at Ga;have Gm:Hid ((decide (D.l.length<=1000) && decide (D.n<=1000))=B2):=hid (by rw [Hi.out.2.2];exact Gg);have BB:=Ho.out.below Hj.out Ho.out.lt;have l0:=BB.c0;have l1:=BB.c1;have l2:=BB.c2;clear Gg BB;go_wp2_with fail;refine Ga.out.mono ?_;rintro e w4 ⟨rfl,b4⟩;have Hb:=hid (keepS Hj.out b4);have Hk:=hid b4;clear b4 l0 l1 l2 Ga;cases B2 with
  | false=>
   have HZ:=hid (ch_f (S:=S) (D:=D) (by unfold chF;rw [Gm.out];simp));have R3:=Hh.out.below Hb.out Hh.out.lt;have Q3:=Hg.out.below Hb.out Hg.out.lt;have He:=hid (keepS H2.out Hb.out);have r0:=R3.c0;have r1:=R3.c1;have f0:=R3.f 0;have f1:=R3.f 1;have HC:=hid (R3.set (.slice none 0 0) (.slice none 0 0));have Q4:=(Q3.setAt ⟨w.heap.size+1+1,0,none⟩ (.slice none 0 0) (by show w.heap.size+1+1≠w.heap.size+1+1+1;omega)).setAt ⟨w.heap.size+1+1,1,none⟩ (.slice none 0 0) (by show w.heap.size+1+1≠w.heap.size+1+1+1;omega);have q0:=Q4.c0;have q1:=Q4.c1;have G6:=Q4.f 0;have G7:=Q4.f 1;have Hm:=hid (Q4.set (.slice none 0 0) (.slice none 0 0));have Hl:=hid ((HC.out.setAt ⟨w.heap.size+1+1+1,0,none⟩ (.slice none 0 0) (by show w.heap.size+1+1+1≠w.heap.size+1+1;omega)).setAt ⟨w.heap.size+1+1+1,1,none⟩ (.slice none 0 0) (by show w.heap.size+1+1+1≠w.heap.size+1+1;omega));clear R3 Q3 Q4;go_wp2_with fail;have s0:=Hl.out.c0;have s1:=Hl.out.c1;have s2:=Hm.out.c0;have s3:=Hm.out.c1;refine zF (v:=.tuple #[.agg #[.slice none 0 0,.slice none 0 0],.agg #[.slice none 0 0,.slice none 0 0],.int .i64 4]) (by simp [results,Tryz.results57,go_sem,s0,s1,s2,s3]) ⟨none,0,none,0,none,0,none,0,w.heap.size,by rw [HZ.out.1,HZ.out.2.1,HZ.out.2.2];rfl,?_,?_,?_⟩
   ·rw [HZ.out.1];exact SOw.mt _ Sx.mt rfl rfl _ _ ⟨Nat.le_refl _,by simp [World.setCell];exact He.out.size⟩ _ _ _
   ·rw [HZ.out.2.1];exact SOw.emp _ _ _ _ _ (by simp [World.setCell];exact He.out.size)
   ·exact(((He.out.setCell (by simp;omega) _).setCell (by simp;omega) _).setCell (by simp;omega) _).setCell (by simp;omega) _
  | true=>
   have HZ:=hid (ch_t (S:=S) (D:=D) (by unfold chF;rw [H6.out,Gm.out];rfl));have Hn:=hid ((Hw.out.below Hd.out Hw.out.lt).below Hk.out (Hw.out.below Hd.out Hw.out.lt).lt);have Hp:=hid (Ho.out.below Hb.out Ho.out.lt);have Hu:Hid (∀w',Below w4.heap.size w4 w' ->(w'.cell? ⟨w1.heap.size,0,none⟩=some (.map (some z0.1))/\ w'.cell? ⟨w1.heap.size,1,none⟩=some (.map (some z0.2))/\ w'.cell? ⟨w1.heap.size,2,none⟩=some (.map (some bd))/\ w'.cell? ⟨w.heap.size+1,0,none⟩=some (.map (some y0.1))/\ w'.cell? ⟨w.heap.size+1,1,none⟩=some (.map (some y0.2))/\ w'.cell? ⟨w.heap.size+1,2,none⟩=some (.map (some bm')))):=hid (fun w' b=>by
    have A1:=Hn.out.below b Hn.out.lt;have B1:=Hp.out.below b Hp.out.lt;exact⟨A1.c0,A1.c1,A1.c2,B1.c0,B1.c1,B1.c2⟩)
   have H8:=hid (fun w5 (b5:Below w4.heap.size w4 w5)=>stateC w5 (((Gt.out.below Hd.out).below Hk.out).below b5) Hs.out.2.2.1 (Hs.out.2.2.2 (by have:=H6.out;unfold jnF at this;simp at this;exact this.1)));have H9:=hid (fun w5 (b5:Below w4.heap.size w4 w5)=>stateC w5 ((Gr.out.below Hb.out).below b5) Hr.out.2.2.1 Hr.out.2.2.2);have Gy:=hid (keepS H2.out Hb.out);have Gw:=hid (Hh.out.below Hb.out Hh.out.lt);have Gu:=hid (Hg.out.below Hb.out Hg.out.lt);obtain⟨JL,Gj⟩:∃JL,(jnS S D).l.length=JL:=⟨_,rfl⟩;obtain⟨JU,Gk⟩:∃JU,(jnU S D).length=JU:=⟨_,rfl⟩;obtain⟨DL,Gh⟩:∃DL,D.l.length=DL:=⟨_,rfl⟩;obtain⟨DU,Gi⟩:∃DU,ul.length=DU:=⟨_,rfl⟩;rw [Gj,Gk] at H8;rw [Gh,Gi] at H9;have Hc:=hid (And.intro Gj (And.intro Gk (And.intro Gh Gi)));have Gc:Hid (w.heap.size+4<=w4.heap.size/\ w1.heap.size<w4.heap.size/\ w.heap.size+4<=w1.heap.size):=hid (by
    have h1:=G5.out;have h2:=Hb.out.size;have h3:=Hn.out.lt;have h4:=G4.out;exact⟨by omega,by omega,by omega⟩)
   clear Gj Gk Gh Gi;go_wp2_with fail;refine zR (S:=fun w'=>w'.cell? ⟨w1.heap.size,0,none⟩=some (.map (some z0.1))/\ w'.cell? ⟨w1.heap.size,1,none⟩=some (.map (some z0.2))/\ w'.cell? ⟨w1.heap.size,2,none⟩=some (.map (some bd))/\ w'.cell? ⟨w.heap.size+1,0,none⟩=some (.map (some y0.1))/\ w'.cell? ⟨w.heap.size+1,1,none⟩=some (.map (some y0.2))/\ w'.cell? ⟨w.heap.size+1,2,none⟩=some (.map (some bm'))) (Hu.out _ zI.drew) (fun qh=> ?_);refine tZ 0 21 ?_;refine tZ 2 23 ?_;refine cZ 1 ?_;intro K hK;go_simp;refine(H8.out _ zI.drew).mono ?_;rintro e w5 ⟨⟨a,c,x,d,rfl,lb,fr,H0⟩,b5⟩;have Hy:Below w4.heap.size w4 w5:=⟨b5.os,b5.tape,b5.output,b5.size,b5.block⟩;have Gq:=hid lb;have Go:=hid fr;have Gd:Hid (w4.heap.size+2<=w5.heap.size):=hid H0;clear lb fr H0;refine hK.out _ _ (Hu.out _ Hy) (fun qh=> ?_);clear hK K;try simp only [zP]
   refine cZ 3 ?_;intro K hK;go_simp;refine(H9.out _ Hy).mono ?_;rintro e w6 ⟨⟨a',c',x',d',rfl,lb,fr,H1⟩,b6⟩;have Hf:=keepS Hy b6;have H7:=hid lb;have H5:=hid fr;have Ge:Hid (w5.heap.size+2<=w6.heap.size):=hid H1;have Ka:=hid (Gq.out.below b6);have G9:=hid (Go.out.below b6);clear lb fr H1;refine hK.out _ _ (Hu.out _ Hf) (fun qh=> ?_);clear hK K;try simp only [zP]
   have R6:=Gw.out.below Hf Gw.out.lt;have t0:=R6.c0;have t1:=R6.c1;have tf:=R6.f;have Gl:=Gc.out;have G2:=hid (R6.set (.slice a JL c) (.slice x JU d));have Hx:=hid (((Hn.out.below Hf Hn.out.lt).far (grownSet w6 ⟨w.heap.size+1+1,0,none⟩ (.slice a JL c)) (by show w1.heap.size≠w.heap.size+1+1;omega)).far (grownSet _ ⟨w.heap.size+1+1,1,none⟩ (.slice x JU d)) (by show w1.heap.size≠w.heap.size+1+1;omega));have Hq:=hid (((Hp.out.below Hf Hp.out.lt).far (grownSet w6 ⟨w.heap.size+1+1,0,none⟩ (.slice a JL c)) (by show w.heap.size+1≠w.heap.size+1+1;omega)).far (grownSet _ ⟨w.heap.size+1+1,1,none⟩ (.slice x JU d)) (by show w.heap.size+1≠w.heap.size+1+1;omega));have Ht:=hid (((Gu.out.below Hf Gu.out.lt).setAt ⟨w.heap.size+1+1,0,none⟩ (.slice a JL c) (by show w.heap.size+1+1≠w.heap.size+1+1+1;omega)).setAt ⟨w.heap.size+1+1,1,none⟩ (.slice x JU d) (by show w.heap.size+1+1≠w.heap.size+1+1+1;omega));have Gb:=hid ((Hx.out.far (grownSet _ ⟨w.heap.size+1+1+1,0,none⟩ (.slice a' DL c')) (by show w1.heap.size≠w.heap.size+1+1+1;omega)).far (grownSet _ ⟨w.heap.size+1+1+1,1,none⟩ (.slice x' DU d')) (by show w1.heap.size≠w.heap.size+1+1+1;omega));have H3:=hid ((Hq.out.far (grownSet _ ⟨w.heap.size+1+1+1,0,none⟩ (.slice a' DL c')) (by show w.heap.size+1≠w.heap.size+1+1+1;omega)).far (grownSet _ ⟨w.heap.size+1+1+1,1,none⟩ (.slice x' DU d')) (by show w.heap.size+1≠w.heap.size+1+1+1;omega));have Gx:=hid ((G2.out.setAt ⟨w.heap.size+1+1+1,0,none⟩ (.slice a' DL c') (by show w.heap.size+1+1+1≠w.heap.size+1+1;omega)).setAt ⟨w.heap.size+1+1+1,1,none⟩ (.slice x' DU d') (by show w.heap.size+1+1+1≠w.heap.size+1+1;omega));have Gv:=hid (Ht.out.set (.slice a' DL c') (.slice x' DU d'));have Gz:=hid (keepS Gy.out Hf);have G0:Hid (SOw w6 (w4.heap.size+2) w5.heap.size a x d (jnS S D)):=hid (SOw.below (SOw.of (ul:=jnU S D) (by rw [Hc.out.1];exact Gq.out) (by rw [show (jnS S D).n=JU from Hc.out.2.1];exact Go.out) rfl rfl rfl rfl Gd.out) b6);have G1:Hid (SOw w6 (w5.heap.size+2) w6.heap.size a' x' d' D):=hid (SOw.of (ul:=ul) (by rw [Hc.out.2.2.1];exact H7.out) (by rw [Hi.out.2.2,Hc.out.2.2.2];exact H5.out) Hi.out.2.2 (by rw [H4.out];rfl) (by rw [H4.out];rfl) (by rw [H4.out];rfl) Ge.out);clear Gl;refine cZ 4 ?_;intro K hK;go_simp;refine hK.out _ _ ⟨Hx.out.c0,Hx.out.c1,Hx.out.c2,Hq.out.c0,Hq.out.c1,Hq.out.c2⟩ (fun qh=> ?_);clear hK K;try simp only [zP]
   clear t0 t1 tf;have t0:=Ht.out.c0;have t1:=Ht.out.c1;have tf:=Ht.out.f;refine cZ 5 ?_;intro K hK;go_simp;refine hK.out _ _ ⟨Gb.out.c0,Gb.out.c1,Gb.out.c2,H3.out.c0,H3.out.c1,H3.out.c2⟩ (fun qh=> ?_);clear hK K;try simp only [zP]
   refine tZ 6 6 ?_;refine zD ?_;clear qh b5 Hy b6 Hf R6 t0 t1 tf Hu H8 H9;go_wp2_with fail;have s0:=Gx.out.c0;have s1:=Gx.out.c1;have s2:=Gv.out.c0;have s3:=Gv.out.c1;refine zF (v:=.tuple #[.agg #[.slice a JL c,.slice x JU d],.agg #[.slice a' DL c',.slice x' DU d'],.int .i64 0]) (by simp [results,Tryz.results57,go_sem,s0,s1,s2,s3]) ?_;refine⟨a,c,x,d,a',c',x',d',?_⟩;first|refine⟨by rw [HZ.out.1,HZ.out.2.1,HZ.out.2.2,Hc.out.1,show (jnS S D).n=JU from Hc.out.2.1,Hc.out.2.2.1,Hi.out.2.2,Hc.out.2.2.2],w5.heap.size,?_,?_,?_⟩|refine⟨w5.heap.size,by rw [HZ.out.1,HZ.out.2.1,HZ.out.2.2,Hc.out.1,show (jnS S D).n=JU from Hc.out.2.1,Hc.out.2.2.1,Hi.out.2.2,Hc.out.2.2.2],?_,?_,?_⟩
   ·rw [HZ.out.1];have Gl:=Gc.out;have H0:=Gd.out;have H1:=Ge.out;exact SOw.wide ((((G0.out.set ⟨w.heap.size+1+1,0,none⟩ (.slice a JL c) (.inl (by show w.heap.size+1+1<w4.heap.size+2;omega))).set ⟨w.heap.size+1+1,1,none⟩ (.slice x JU d) (.inl (by show w.heap.size+1+1<w4.heap.size+2;omega))).set ⟨w.heap.size+1+1+1,0,none⟩ (.slice a' DL c') (.inl (by show w.heap.size+1+1+1<w4.heap.size+2;omega))).set ⟨w.heap.size+1+1+1,1,none⟩ (.slice x' DU d') (.inl (by show w.heap.size+1+1+1<w4.heap.size+2;omega))) (by omega) zL (by simp [World.setCell];omega)
   ·rw [HZ.out.2.1];have Gl:=Gc.out;have H0:=Gd.out;have H1:=Ge.out;exact SOw.wide ((((G1.out.set ⟨w.heap.size+1+1,0,none⟩ (.slice a JL c) (.inl (by show w.heap.size+1+1<w5.heap.size+2;omega))).set ⟨w.heap.size+1+1,1,none⟩ (.slice x JU d) (.inl (by show w.heap.size+1+1<w5.heap.size+2;omega))).set ⟨w.heap.size+1+1+1,0,none⟩ (.slice a' DL c') (.inl (by show w.heap.size+1+1+1<w5.heap.size+2;omega))).set ⟨w.heap.size+1+1+1,1,none⟩ (.slice x' DU d') (.inl (by show w.heap.size+1+1+1<w5.heap.size+2;omega))) (by omega) (by simp [World.setCell]) zL
   ·exact(((Gz.out.setCell (by simp;omega) _).setCell (by simp;omega) _).setCell (by simp;omega) _).setCell (by simp;omega) _
end Go.Proofs.YtfidfeilljlbiaaGreat
