import Derived.Test.YtpfmeafmepgimaaGreatFkg26
import Derived.Shelf.SlIter.Collect
import Derived.Test.YtpfmeafmepgimaaGreatFkg19
import Derived.Test.YtpfmeafmepgimaaGreatFkg14
import Derived.RegionTactic
import Derived.ChangeAlike
set_option linter.unusedVariables false
set_option linter.unusedSimpArgs false
set_option maxRecDepth 100000
set_option maxHeartbeats 40000000
namespace Go.Proofs.YtpfmeafmepgimaaGreat
open Go.ChangeShapes Go.WideShapes Go.ChangeAt Go.RowKit Go.Maps
def MO {α β:Type}(w:World)(t:TypeId)(kv:α ->Value)(vo:Option β ->Value)(mo:Option Nat)(c:Nat)(f:α ->Option β):Prop:=
 match mo with
 | some b=>MapF w t kv vo b c f
 | none=>∀x,f x=none
def Rng {α β:Type}(w:World)(t:TypeId)(kv:α ->Value)(vo:Option β ->Value)(mo:Option Nat)(r c:Nat)(f:α ->Option β)(ds:List α)(cnt:Nat):Prop:=
 match mo with
 | some b=>∃D left,w.ranges Tryz.prog t allR b r c D left cnt/\ FM w t kv vo b c f D/\ CollF t kv f left ds/\ ds.length+cnt<=Maps.size D
 | none=>w.heap[r]? =some (.mapIter none 0 #[] 0)/\ ds=[]/\ cnt=0/\∀x,f x=none
section
variable {α β : Type} {w w' : World} {t : TypeId} {kv : α -> Value} {vo : Option β -> Value} {mo : Option Nat} {r c cnt : Nat} {f : α -> Option β} {ds : List α}
theorem MO.lt (h:MO w t kv vo mo c f):∀b,mo=Option.some b ->b<w.heap.size:=fun b e=>by subst e;exact MapF.lt h
theorem MO.kept {row:Option Nat}(h:MO w t kv vo mo c f)(hg:w.grownBy w' row)(hne:∀b,mo=Option.some b ->row≠Option.some b):MO w' t kv vo mo c f:=by
 cases mo with
 | none=>exact h
 | some b=>exact MapF.same h (hg.block b (MapF.lt h) (fun e=>hne b rfl e.symm))
theorem MO.below {B:Nat}(h:MO w t kv vo mo c f)(hb:Below B w w')(hne:∀b,mo=Option.some b ->b<B):MO w' t kv vo mo c f:=by
 cases mo with
 | none=>exact h
 | some b=>exact MapF.same h (hb.block b (hne b rfl))
theorem Rng.left_eq {b:Nat}(h:Rng w t kv vo (Option.some b) r c f ds cnt):w.rangeLeft b r=cnt:=by
 obtain⟨D,left,h,_⟩:=h;exact h.left_eq
theorem Rng.lt (h:Rng w t kv vo mo r c f ds cnt):r<w.heap.size:=by
 cases mo with
 | none=>exact(Array.getElem?_eq_some_iff.1 h.1).1
 | some b=>obtain⟨D,left,h,_⟩:=h;exact h.lt
theorem Rng.mlt (h:Rng w t kv vo mo r c f ds cnt):∀b,mo=Option.some b ->b<w.heap.size:=fun b e=>by
 subst e;obtain⟨D,left,h,_⟩:=h;exact h.owns.lt
theorem Rng.len (h:Rng w t kv vo mo r c f ds cnt):ds.length+cnt<=c:=by
 cases mo with
 | none=>rw [h.2.1,h.2.2.1];simp
 | some b=>obtain⟨D,left,h,h2,_,h4⟩:=h;have:=h.owns.size_le;omega
theorem Rng.kept {row:Option Nat}(h:Rng w t kv vo mo r c f ds cnt)(hg:w.grownBy w' row)(hne:∀b,mo=Option.some b ->row≠Option.some b)(hr:row≠Option.some r):Rng w' t kv vo mo r c f ds cnt:=by
 have hl:=h.lt;cases mo with
 | none=>exact⟨(hg.block r hl (fun e=>hr e.symm)).trans h.1,h.2⟩
 | some b=>
  obtain⟨D,left,h,h2,h3⟩:=h;have h':=h.kept hg (fun e=>hne b rfl e.symm) (fun e=>hr e.symm);exact⟨D,left,h',⟨h'.owns,h2.at',h2.cov,h2.ok⟩,h3⟩
theorem Rng.same (h:Rng w t kv vo mo r c f ds cnt)(hg:∀b,mo=Option.some b ->w'.heap[b]? =w.heap[b]?)(hr:w'.heap[r]? =w.heap[r]?):Rng w' t kv vo mo r c f ds cnt:=by
 cases mo with
 | none=>exact⟨hr.trans h.1,h.2⟩
 | some b=>
  obtain⟨D,left,⟨es,clock,since,seen,c0,hb,F,hs,hD,hr',rest⟩,h2,h3⟩:=h;have h':w'.ranges Tryz.prog t allR b r c D left cnt:=⟨es,clock,since,seen,c0,(hg b rfl).trans hb,F,hs,hD,hr.trans hr',rest⟩;exact⟨D,left,h',⟨h'.owns,h2.at',h2.cov,h2.ok⟩,h3⟩
end
theorem run_next_none {w:World}{r:Nat}(h:w.heap[r]? =some (.mapIter none 0 #[] 0))(ty:TypeId):(Instr.next (.pointer (some ⟨r,0,none⟩)) false ty).run Tryz.prog w=.ok (.tuple #[.bool false]) w:=by
 simp only [Instr.next,getObj,Sem.run_bind,Sem.run,h,Result.andThen];rfl
section
variable {α β : Type} {t : TypeId} {kv : α -> Value} {vo : Option β -> Value} {mo : Option Nat} {r c cnt : Nat} {f : α -> Option β} {ds : List α}
variable (w : World) {ops : Array Oper} {rest : List Oper} {o : Oper} {a : Act} {Q : Exit -> Act -> World -> Prop}
theorem wpList_range_O (hg:o.guard=none)(m:Operand)(mt:TypeId)(hop:o.op=Op.range mt m)(t e:TypeId)(K:Keyed Tryz.prog t)(ht:Tryz.prog.underlying mt=some (.map t e))(kv:α ->Value)(vo:Option β ->Value)(mo:Option Nat)(c:Nat)(f:α ->Option β)
  (hm:a.eval m=.map mo) (h:MO w t kv vo mo c f)
  (hK:∀w' cnt,Rng w' t kv vo mo w.heap.size c f ([]:List α) cnt ->w.grownBy w' none ->w'.heap.size=w.heap.size+1 ->wpList Tryz.prog ops Q rest (a.put o.dst (.pointer (some ⟨w.heap.size,0,none⟩))) w'):
  wpList Tryz.prog ops Q (o::rest) a w:=by
 cases mo with
 | some b=>
  obtain⟨D,h⟩:=h;refine wpList_range_own w hg m mt hop t e K ht allR b c D hm h.own ?_;intro w0 hr hg0 hs0;have hb:=hg0.block b (MapF.lt ⟨D,h⟩) (by simp);exact hK w0 _ ⟨D,_,hr,⟨hr.owns,h.at',h.cov,h.ok⟩,CollF.start h,by simp⟩ hg0 hs0
 | none=>
  refine wpList_plain hg fun K' hK'=> ?_;unfold Oper.wp;simp [execOp,hop,hm,run_range_nilMap w mt t e ht,Result.andThen];exact hK' _ _ (hK _ 0 ⟨heap_alloc_new w _,rfl,rfl,h⟩ (World.grownBy_alloc w _ none) (by simp))
theorem wpList_next_O (hg:o.guard=none)(it:Operand)(hop:o.op=Op.next it false)(t:TypeId)(K:Keyed Tryz.prog t)(kv:α ->Value)(hi:∀x y,kv x=kv y ->x=y)(invK:∀key kl,keyOf Tryz.prog t key=some kl ->∃x,key=kv x)(vo:Option β ->Value)(mo:Option Nat)(r c:Nat)(f:α ->Option β)(ds:List α)(cnt:Nat)
  (hit:a.eval it=.pointer (some ⟨r,0,none⟩)) (h:Rng w t kv vo mo r c f ds cnt)
  (hDone:KeysF f ds ->wpList Tryz.prog ops Q rest (a.put o.dst (.tuple #[.bool false])) w)
  (hMore:∀(x:α) (y:β) (w':World) (cnt' b:Nat),mo=some b ->f x=some y ->x ∉ ds ->(∃kl,keyOf Tryz.prog t (kv x)=some kl) ->Rng w' t kv vo mo r c f (ds++[x]) cnt' ->cnt'<cnt ->w.grownBy w' (some r) ->w'.heap.size=w.heap.size ->
   (Instr.entry (.pointer (some ⟨r,0,none⟩))).run Tryz.prog w'=.ok (.tuple #[kv x,vo (some y)]) w' ->wpList Tryz.prog ops Q rest (a.put o.dst (.tuple #[.bool true,kv x,vo (some y)])) w'):
  wpList Tryz.prog ops Q (o::rest) a w:=by
 cases mo with
 | none=>
  refine wpList_plain hg fun K' hK'=> ?_;unfold Oper.wp;simp [execOp,hop,hit,run_next_none h.1,Result.andThen];refine hK' _ _ (hDone ?_);rw [h.2.1];exact⟨List.nodup_nil,fun x=>⟨fun hx=>(by cases hx),fun hx=>absurd (h.2.2.2 x) hx⟩⟩
 | some b=>
  obtain⟨D,left,hr,hF,hC,hlen⟩:=h;refine wpList_next_ranges (α:=α) (β:=Value) w hg it hop t K allR kv id invK (fun v _ _=>⟨v,rfl⟩) b r c D left cnt hit hr (fun h0 hl=>hDone (hC.done hF hl)) ?_;intro x v kl y w1 cnt1 hkey hlk hv hat hr1 hlt hg1 hs1 hen;have hhas:=has_true_of_atKey hat;have hsome:=(hF.at' x kl hkey).1;rw [hhas] at hsome;obtain⟨z,hz⟩:∃z,f x=some z:=by
   cases e:f x with
   | none=>rw [e] at hsome;cases hsome
   | some z=>exact⟨z,rfl⟩
  have hvz:v=vo (some z):=by
   have h1:=(hF.at' x kl hkey).2;rw [hat,hz] at h1;have h2:=allR_inv hv;rw [h2] at h1;injection h1
  subst hvz;have hnm:x ∉ ds:=fun hx=>by have:=(hC.old x hx).2 kl hkey;rw [hlk] at this;cases this
  exact hMore x z w1 cnt1 b rfl hz hnm ⟨kl,hkey⟩ ⟨D,_,hr1,⟨hr1.owns,hF.at',hF.cov,hF.ok⟩,hC.step hF K hi hkey hlk hat,by simp;omega⟩ hlt hg1 hs1 hen
end
section
variable {α β : Type} {w w' : World} {t : TypeId} {kv : α -> Value} {vo : Option β -> Value} {mo : Option Nat} {r c cnt : Nat} {f : α -> Option β} {ds : List α}
theorem MO.look_ok {mt e:TypeId}(h:MO w t kv vo mo c f)(K:Keyed Tryz.prog t)(ht:Tryz.prog.underlying mt=Option.some (.map t e))(hz:(zeroValue e).run Tryz.prog w=.ok (vo none) w){x:α}{kl:Lit}(hk:keyOf Tryz.prog t (kv x)=Option.some kl):
  (Instr.lookup mt (.map mo) (kv x) true).run Tryz.prog w=.ok (.tuple #[vo (f x),.bool (f x).isSome]) w:=by
 cases mo with
 | some b=>exact MapF.look_ok h K ht hz hk
 | none=>
  rw [h x];exact Maps.look_nil true K ht hz hk
end
theorem keyOf_dot_wf {r q:Int}{kl:Lit}(h:keyOf Tryz.prog 63 (dtV (r,q))=some kl):(Lit.int .i64 r).wf=true/\ (Lit.int .i64 q).wf=true:=by
 unfold keyOf at h;rw [Tryz.underlying63] at h;simp only [dotKT,Bool.true_and] at h;have h0:0<Tryz.prog.types.size:=of_decide_eq_true (by kernel_rfl);obtain⟨m,hm⟩:∃m,Tryz.prog.types.size=m+1:=⟨Tryz.prog.types.size - 1,by omega⟩;rw [hm] at h;have e2:Tryz.prog.cellsOf 63=2:=by kernel_rfl
 have ei:Tryz.prog.cellsOf 3=1:=by kernel_rfl
 simp [dtV,dotV,Value.formed,Tryz.underlying63,e2,Program.keyLits,Tryz.underlying3,ei,Value.cells] at h;by_cases hr:(Lit.int .i64 r).wf=true
 ·by_cases hq:(Lit.int .i64 q).wf=true
  ·exact⟨hr,hq⟩
  ·simp [hr,hq] at h
 ·simp [hr] at h
theorem mrkF:Tryz.prog.fieldsOf 79=match Tryz.prog.underlying 79 with|some (.struct fs)=>fs|_=>#[]:=rfl
theorem mrkStood:Tryz.prog.stoodInHeld 79=false:=by kernel_rfl
theorem eqlMark (s s':ByteArray)(w:World):(binOp .eql 79 (.agg #[.string s]) (.agg #[.string s'])).run Tryz.prog w=.ok (.bool (s.toList==s'.toList)) w:=by
 rw [run_eql_struct,show (10000:Nat)=9999+1 from rfl,run_equalIn_agg _ _ _ _ _ (by kernel_rfl) mrkStood,mrkF,Tryz.underlying79];cases h1:(s.toList==s'.toList)<;>simp [Op.eqFields,go_sem,Tryz.underlying9,h1]
theorem keepMarksC (ka ma kb mb kj na:Option Nat)(bj bm ca cb c:Nat)(fa fb f:Dt ->Option ByteArray)(hb:Dt ->Bool)(w:World)
  (hA:MO w 63 dtV mrkV ma ca fa) (hB:MO w 63 dtV mrkV mb cb fb) (hJ:MapF w 63 dtV mrkV bj c f) (hna:ma≠some bj) (hnb:mb≠some bj) (hc:c+ca<=1048576)
  (hH:∀w',w.grownBy w' (some bj) ->∀r q kl,keyOf Tryz.prog 63 (dtV (r,q))=some kl ->Calls Tryz.prog 83 #[.map (some bm),.agg #[.int .i64 r,.int .i64 q]] w' fun e w''=>e=.returned (.bool (hb (r,q)))/\ Below w'.heap.size w' w''):
  Calls Tryz.prog 64 #[.agg #[.map ka,.map ma,.map na],.agg #[.map kb,.map mb,.map (some bm)],.agg #[.map kj,.map (some bj)]] w fun e w'=>e=.returned (.tuple #[])/\ MapF w' 63 dtV mrkV bj (c+ca) (kmF fa fb hb f)/\ w.grownBy w' (some bj):=by
 obtain⟨W,hW⟩:∃W,((w.alloc (.cells #[.map ka,.map ma,.map na] 49)).alloc (.cells #[.map kb,.map mb,.map (some bm)] 49)).alloc (.cells #[.map kj,.map (some bj)] 45)=W:=⟨_,rfl⟩;have g0:w.grownBy W (some bj):=by rw [<- hW];exact((World.grownBy_alloc w _ _).trans (World.grownBy_alloc _ _ _)).trans (World.grownBy_alloc _ _ _)
 have b0:Below w.heap.size w W:=by rw [<- hW];exact(((Below.refl _ _).alloc (Nat.le_refl _) _).alloc (by simp) _).alloc (by simp;omega) _
 have X0:Bx3 W w.heap.size (.map ka) (.map ma) (.map na):=by
  rw [<- hW];exact((Bx3.made w (.map ka) (.map ma) (.map na) 49).below ((Below.refl _ _).alloc (Nat.le_refl _) _) (Bx3.made w (.map ka) (.map ma) (.map na) 49).lt).below ((Below.refl _ _).alloc (Nat.le_refl _) _) (by simp;omega)
 have X1:Bx3 W (w.heap.size+1) (.map kb) (.map mb) (.map (some bm)):=by
  rw [<- hW];have:=Bx3.made (w.alloc (.cells #[.map ka,.map ma,.map na] 49)) (.map kb) (.map mb) (.map (some bm)) 49;exact(by simpa using this:Bx3 _ (w.heap.size+1) _ _ _).below ((Below.refl _ _).alloc (Nat.le_refl _) _) (by simp)
 have X2:Bx2 W (w.heap.size+2) (.map kj) (.map (some bj)):=by
  rw [<- hW];simpa using Bx2.made ((w.alloc (.cells #[.map ka,.map ma,.map na] 49)).alloc (.cells #[.map kb,.map mb,.map (some bm)] 49)) (.map kj) (.map (some bj)) 45
 have HA:=hid (hA.kept g0 (fun b e h=>hna (by rw [e];exact h.symm)));have HB:=hid (hB.kept g0 (fun b e h=>hnb (by rw [e];exact h.symm)));have HJ:=hid (MapF.same hJ (b0.block bj hJ.lt));have HN:=hid (⟨hna,hnb,hJ.lt,hc⟩:ma≠some bj/\ mb≠some bj/\ bj<w.heap.size/\ c+ca<=1048576);have HH:=hid (fun w' (hg:W.grownBy w' (some bj))=>hH w' (g0.trans hg));have HG0:=hid g0;have HAL:=hid (fun b (e:ma=some b)=>hA.lt b e);have hWS:W.heap.size=w.heap.size+3:=by rw [<- hW];simp
 have HWS:=hid hWS;have HX:=hid (⟨X1,X2⟩:Bx3 W (w.heap.size+1) (.map kb) (.map mb) (.map (some bm))/\ Bx2 W (w.heap.size+2) (.map kj) (.map (some bj)));have k1:=X0.c1;clear hA hB hJ hna hnb hc hH g0 b0 X0 X1 X2 hWS;go_enter Tryz.func64,Tryz.ntmps64;go_wp2_with (at_range;refine wpList_range_O _ rfl _ 43 rfl 63 79 dotKeyed Tryz.underlying43 dtV mrkV ma ca fa rfl HA.out ?_;intro w0 cnt0 hrg0 hg0 hs0);have HG1:Hid (W.grownBy w0 (some bj)):=hid (hg0.but _);have HJ0:Hid (MapF w0 63 dtV mrkV bj (c+([]:List Dt).length) (kmS fa fb hb f [])):=hid (by rw [kmS_start];exact MapF.same HJ.out (hg0.block bj HJ.out.lt (by simp)));clear hg0 hs0 HJ HA k1 hW;try go_frame
 go_loopw [] (fun wr=>∃(ds:List Dt) (cnt:Nat),Rng wr 63 dtV mrkV ma W.heap.size ca fa ds cnt/\ Hid (MapF wr 63 dtV mrkV bj (c+ds.length) (kmS fa fb hb f ds))/\ Hid (W.grownBy wr (some bj))) (fun wr=>wr.rangeLeft (ma.getD 0) W.heap.size);case atStart=>exact⟨[],_,hrg0,HJ0,HG1⟩
 case round=>
  clear hrg0 HJ0 HG1;obtain⟨ds,cnt,hrg,HJR,HGR⟩:=hrel;have HRG0:=hid hrg;go_wp2_with (at_next;refine wpList_next_O _ rfl _ rfl 63 dotKeyed dtV (fun _ _=>dtV_inj) (fun key kl hk=>keyOf_dot hk) mrkV ma W.heap.size ca fa ds cnt rfl hrg ?_ ?_)
  ·intro hk;have HE:Hid (MapF wr 63 dtV mrkV bj (c+ca) (kmF fa fb hb f)):=hid (by rw [<- kmS_done hk];exact HJR.out.mono (by have:=HRG0.out.len;omega));have HE2:=hid (HG0.out.trans HGR.out);clear hk hrg;go_wp2_with fail;go_end0;exact⟨rfl,HE.out,HE2.out⟩
  ·intro xr xq s w5 cnt2 b1 hma hfx hnx kl hkl hrg2 hlt2 hg2 hs2 hen;have HFX:=hid hfx;have HNX:=hid hnx;have HKL:=hid hkl;have HCC:Hid (c+ds.length<maxLen):=hid (by have h1:=HRG0.out.len;have h2:=HN.out.2.2.2;have h3:=hlt2;unfold maxLen;omega);have HML:Hid (∀w9,Rng w9 63 dtV mrkV ma W.heap.size ca fa (ds++[(xr,xq)]) cnt2 ->w9.rangeLeft (ma.getD 0) W.heap.size<wr.rangeLeft (ma.getD 0) W.heap.size):=hid (fun w9 h9=>by
    have h1:=HRG0.out;rw [hma] at h9 h1 ⊢;show w9.rangeLeft b1 _<wr.rangeLeft b1 _;rw [h9.left_eq,h1.left_eq];exact hlt2)
   have HG5:Hid (W.grownBy w5 (some bj)):=hid (HGR.out.andThen hg2 (fun j e=>by cases e;exact .inl (Nat.le_refl _)));have HS5:Hid (W.heap.size<=w5.heap.size):=hid HG5.out.size;have HJ5:Hid (MapF w5 63 dtV mrkV bj (c+ds.length) (kmS fa fb hb f ds)):=hid (MapF.same HJR.out (hg2.block bj HJR.out.lt (fun e=>by have h1:=HN.out.2.2.1;have h2:=HWS.out;injection e with e;omega)));have HR5:=hid hrg2;clear hfx hnx hkl hrg hrg2 hlt2 hg2 hs2 hma;obtain⟨w6,hw6⟩:∃w6,(w5.alloc (.cells #[.int .i64 xr,.int .i64 xq] 63)).alloc (.cells #[.string s] 79)=w6:=⟨_,rfl⟩;have b6:Below w5.heap.size w5 w6:=by rw [<- hw6];exact below2 _ _ _
   have D6:Bx2 w6 w5.heap.size (.int .i64 xr) (.int .i64 xq):=by rw [<- hw6];exact(Bx2.made w5 _ _ _).allocs _
   have M6:Bx1 w6 (w5.heap.size+1) (.string s):=by rw [<- hw6];simpa using Bx1.made (w5.alloc (.cells #[.int .i64 xr,.int .i64 xq] 63)) (.string s) 79
   have G6:W.grownBy w6 (some bj):=HG5.out.andThen (row':=none) ⟨b6.os,b6.tape,b6.output,b6.size,fun k hk _=>b6.block k hk⟩ (fun j e=>by cases e);have nb:∀k,w.heap.size<=k ->some k≠some bj:=fun k hk e=>by have h1:=HN.out.2.2.1;injection e with e;omega
   have o1:=G6.cell HX.out.1.c1 (nb _ (by simp));have o2:=G6.cell HX.out.1.c2 (nb _ (by simp));have d0:=D6.c0;have d1:=D6.c1;have m0:=M6.c0;have HD6:=hid D6;have HM6:=hid M6;have HG6:=hid G6;have HB6:=hid b6;have hlk:=(HB.out.kept G6 (fun b e h=>HN.out.2.1 (by rw [e,h]))).look_ok dotKeyed Tryz.underlying43 (zeroMark w6) (x:=(xr,xq)) HKL.out;dsimp only [dtV,dotV,mrkV] at hen hlk ⊢;clear b6 D6 M6 G6 nb;cases hfb:fb (xr,xq) with
   | none=>
    rw [hfb] at hlk;have HFB:=hid hfb;dsimp only [mrkV,Option.isSome] at hlk;clear hfb;obtain⟨w7,hw7⟩:∃w7,w6.alloc (.cells #[.string ByteArray.empty] 79)=w7:=⟨_,rfl⟩;have b7:Below w6.heap.size w6 w7:=by rw [<- hw7];exact(Below.refl _ _).alloc (Nat.le_refl _) _
    have T7:Bx1 w7 w6.heap.size (.string ByteArray.empty):=by rw [<- hw7];exact Bx1.made _ _ _
    have HG7:Hid (W.grownBy w7 (some bj)):=hid (HG6.out.andThen (row':=none) ⟨b7.os,b7.tape,b7.output,b7.size,fun k hk _=>b7.block k hk⟩ (fun j e=>by cases e));have HB7:=hid (keepS HB6.out b7);have D7:=HD6.out.below b7 HD6.out.lt;have M7:=HM6.out.below b7 HM6.out.lt;have HD7:=hid D7;have HM7:=hid M7;have HT7:=hid T7;have HCA:=hid (HH.out w7 HG7.out xr xq kl HKL.out);have nb:∀k,w.heap.size<=k ->some k≠some bj:=fun k hk e=>by have h1:=HN.out.2.2.1;injection e with e;omega
    have p1:=HG7.out.cell HX.out.1.c1 (nb _ (by simp));have p2:=HG7.out.cell HX.out.1.c2 (nb _ (by simp));have q0:=D7.c0;have q1:=D7.c1;clear b7 T7 D7 M7 nb;go_wp2_with fail;refine HCA.out.mono ?_;rintro e w8 ⟨rfl,b8⟩;have HG8:Hid (W.grownBy w8 (some bj)):=hid (HG7.out.andThen (row':=none) ⟨b8.os,b8.tape,b8.output,b8.size,fun k hk _=>b8.block k hk⟩ (fun j e=>by cases e));have B8:=keepS HB7.out b8;have HJ8:=hid (MapF.same HJ5.out (B8.block bj HJ5.out.lt));have HR8:=hid (HR5.out.same (fun b e=>B8.block b (HR5.out.mlt b e)) (B8.block _ HR5.out.lt));have nb:∀k,w.heap.size<=k ->some k≠some bj:=fun k hk e=>by have h1:=HN.out.2.2.1;injection e with e;omega
    have r1:=HG8.out.cell HX.out.2.c1 (nb _ (by simp));have s0:=(HD7.out.below b8 HD7.out.lt).c0;have s1:=(HD7.out.below b8 HD7.out.lt).c1;have s2:=(HM7.out.below b8 HM7.out.lt).c0;have s3:=(HT7.out.below b8 HT7.out.lt).c0;clear b8 B8 nb hlk hen o1 o2 d0 d1 m0 p1 p2 q0 q1 hw6 hw7 HCA;cases hhb:hb (xr,xq) with
    | false=>
     have HHB:=hid hhb;clear hhb;have HKS:Hid (kmS fa fb hb f (ds++[(xr,xq)])=updF (kmS fa fb hb f ds) (xr,xq) (some s)):=hid (kmS_keep HFX.out (.inl HHB.out));go_wp2_with (refine wpList_mapUpdate_F _ rfl _ _ _ 43 rfl 63 79 dotKeyed dtV (fun _ _=>dtV_inj) Tryz.underlying43 mrkV bj (c+ds.length) (kmS fa fb hb f ds) rfl HJ8.out HCC.out (xr,xq) s kl rfl rfl HKL.out ?_;intro w9 hm9 hg9);have HR9:=hid (HR8.out.kept hg9 (fun b e h=>HN.out.1 (by rw [e,h])) (fun h=>by have h1:=HN.out.2.2.1;have h2:=HWS.out;injection h with h;omega));have HJ9:Hid (MapF w9 63 dtV mrkV bj (c+(ds++[(xr,xq)]).length) (kmS fa fb hb f (ds++[(xr,xq)]))):=hid (by rw [HKS.out];simpa [Nat.add_assoc] using hm9);have HG9:=hid (HG8.out.trans hg9);clear hm9 hg9;simp only [Act.put];go_roundw;case rel=>exact⟨_,_,HR9.out,HJ9,HG9⟩
     case measure=>exact HML.out w9 HR9.out
    | true=>
     have HHB:=hid hhb;clear hhb;have HKS:Hid (kmS fa fb hb f (ds++[(xr,xq)])=kmS fa fb hb f ds):=hid (kmS_drop HFX.out HNX.out (fun h=>h.elim (fun h=>by rw [HHB.out] at h;cases h) (fun h=>by rw [HFB.out] at h;cases h)));have HJ9:Hid (MapF w8 63 dtV mrkV bj (c+(ds++[(xr,xq)]).length) (kmS fa fb hb f (ds++[(xr,xq)]))):=hid (by rw [HKS.out];exact HJ8.out.mono (by simp));go_wp2_with fail;go_roundw;case rel=>exact⟨_,_,HR8.out,HJ9,HG8⟩
     case measure=>exact HML.out w8 HR8.out
   | some t=>
    rw [hfb] at hlk;have HFB:=hid hfb;dsimp only [mrkV,Option.isSome] at hlk;clear hfb;obtain⟨w7,hw7⟩:∃w7,w6.alloc (.cells #[.string t] 79)=w7:=⟨_,rfl⟩;have b7:Below w6.heap.size w6 w7:=by rw [<- hw7];exact(Below.refl _ _).alloc (Nat.le_refl _) _
    have T7:Bx1 w7 w6.heap.size (.string t):=by rw [<- hw7];exact Bx1.made _ _ _
    have HG7:Hid (W.grownBy w7 (some bj)):=hid (HG6.out.andThen (row':=none) ⟨b7.os,b7.tape,b7.output,b7.size,fun k hk _=>b7.block k hk⟩ (fun j e=>by cases e));have HB7:=hid (keepS HB6.out b7);have D7:=HD6.out.below b7 HD6.out.lt;have M7:=HM6.out.below b7 HM6.out.lt;have HD7:=hid D7;have HM7:=hid M7;have HT7:=hid T7;have HCA:=hid (HH.out w7 HG7.out xr xq kl HKL.out);have nb:∀k,w.heap.size<=k ->some k≠some bj:=fun k hk e=>by have h1:=HN.out.2.2.1;injection e with e;omega
    have p1:=HG7.out.cell HX.out.1.c1 (nb _ (by simp));have p2:=HG7.out.cell HX.out.1.c2 (nb _ (by simp));have q0:=D7.c0;have q1:=D7.c1;clear b7 T7 D7 M7 nb;go_wp2_with fail;refine HCA.out.mono ?_;rintro e w8 ⟨rfl,b8⟩;have HG8:Hid (W.grownBy w8 (some bj)):=hid (HG7.out.andThen (row':=none) ⟨b8.os,b8.tape,b8.output,b8.size,fun k hk _=>b8.block k hk⟩ (fun j e=>by cases e));have B8:=keepS HB7.out b8;have HJ8:=hid (MapF.same HJ5.out (B8.block bj HJ5.out.lt));have HR8:=hid (HR5.out.same (fun b e=>B8.block b (HR5.out.mlt b e)) (B8.block _ HR5.out.lt));have nb:∀k,w.heap.size<=k ->some k≠some bj:=fun k hk e=>by have h1:=HN.out.2.2.1;injection e with e;omega
    have r1:=HG8.out.cell HX.out.2.c1 (nb _ (by simp));have s0:=(HD7.out.below b8 HD7.out.lt).c0;have s1:=(HD7.out.below b8 HD7.out.lt).c1;have s2:=(HM7.out.below b8 HM7.out.lt).c0;have s3:=(HT7.out.below b8 HT7.out.lt).c0;clear b8 B8 nb hlk hen o1 o2 d0 d1 m0 p1 p2 q0 q1 hw6 hw7 HCA;cases hhb:hb (xr,xq) with
    | false=>
     have HHB:=hid hhb;clear hhb;have HKS:Hid (kmS fa fb hb f (ds++[(xr,xq)])=updF (kmS fa fb hb f ds) (xr,xq) (some s)):=hid (kmS_keep HFX.out (.inl HHB.out));go_wp2_with (refine wpList_mapUpdate_F _ rfl _ _ _ 43 rfl 63 79 dotKeyed dtV (fun _ _=>dtV_inj) Tryz.underlying43 mrkV bj (c+ds.length) (kmS fa fb hb f ds) rfl HJ8.out HCC.out (xr,xq) s kl rfl rfl HKL.out ?_;intro w9 hm9 hg9);have HR9:=hid (HR8.out.kept hg9 (fun b e h=>HN.out.1 (by rw [e,h])) (fun h=>by have h1:=HN.out.2.2.1;have h2:=HWS.out;injection h with h;omega));have HJ9:Hid (MapF w9 63 dtV mrkV bj (c+(ds++[(xr,xq)]).length) (kmS fa fb hb f (ds++[(xr,xq)]))):=hid (by rw [HKS.out];simpa [Nat.add_assoc] using hm9);have HG9:=hid (HG8.out.trans hg9);clear hm9 hg9;simp only [Act.put];go_roundw;case rel=>exact⟨_,_,HR9.out,HJ9,HG9⟩
     case measure=>exact HML.out w9 HR9.out
    | true=>
     have HHB:=hid hhb;have EQ:∀w:World,(binOp .eql 79 (.agg #[.string t]) (.agg #[.string s])).run Tryz.prog w=.ok (.bool (t.toList==s.toList)) w:=fun w=>eqlMark t s w;clear hhb;by_cases hts:t=s
     ·subst hts;have hz:(t.toList==t.toList)=true:=by simp
      rw [hz] at EQ;clear hz;have HKS:Hid (kmS fa fb hb f (ds++[(xr,xq)])=updF (kmS fa fb hb f ds) (xr,xq) (some t)):=hid (kmS_keep HFX.out (.inr HFB.out));go_wp2_with (refine wpList_mapUpdate_F _ rfl _ _ _ 43 rfl 63 79 dotKeyed dtV (fun _ _=>dtV_inj) Tryz.underlying43 mrkV bj (c+ds.length) (kmS fa fb hb f ds) rfl HJ8.out HCC.out (xr,xq) t kl rfl rfl HKL.out ?_;intro w9 hm9 hg9);have HR9:=hid (HR8.out.kept hg9 (fun b e h=>HN.out.1 (by rw [e,h])) (fun h=>by have h1:=HN.out.2.2.1;have h2:=HWS.out;injection h with h;omega));have HJ9:Hid (MapF w9 63 dtV mrkV bj (c+(ds++[(xr,xq)]).length) (kmS fa fb hb f (ds++[(xr,xq)]))):=hid (by rw [HKS.out];simpa [Nat.add_assoc] using hm9);have HG9:=hid (HG8.out.trans hg9);clear hm9 hg9;simp only [Act.put];go_roundw;case rel=>exact⟨_,_,HR9.out,HJ9,HG9⟩
      case measure=>exact HML.out w9 HR9.out
     ·have hz:(t.toList==s.toList)=false:=by simpa using fun h=>hts (toList_inj h)
      have HTS:=hid hts;rw [hz] at EQ;clear hz hts;have HKS:Hid (kmS fa fb hb f (ds++[(xr,xq)])=kmS fa fb hb f ds):=hid (kmS_drop HFX.out HNX.out (fun h=>h.elim (fun h=>by rw [HHB.out] at h;cases h) (fun h=>by rw [HFB.out] at h;exact HTS.out (Option.some.inj h))));have HJ9:Hid (MapF w8 63 dtV mrkV bj (c+(ds++[(xr,xq)]).length) (kmS fa fb hb f (ds++[(xr,xq)]))):=hid (by rw [HKS.out];exact HJ8.out.mono (by simp));go_wp2_with fail;go_roundw;case rel=>exact⟨_,_,HR8.out,HJ9,HG8⟩
      case measure=>exact HML.out w8 HR8.out
theorem underC (z:List Ky)(s:ByteArray)(k:Int)(kn:Option Nat)(B c:Nat)(N:List Ky ->Option (Nat×Nat))(M:List Ky ->Dt ->Option ByteArray)(w:World)(kl:Lit)(hk:keyOf Tryz.prog 102 (keyV (s,k))=some kl)(hT:Tre w B N M c):
  Calls Tryz.prog 66 #[.agg #[.map (mF (N z)),.map (mS (N z)),.map kn],.agg #[.string s,.int .i64 k]] w fun e w'=>e=.returned (.agg #[.map (mF (N (z++[(s,k)]))),.map (mS (N (z++[(s,k)]))),.map kn])/\ Below w.heap.size w w':=by
 have HLK:Hid (∀w',Below w.heap.size w w' ->(Instr.lookup 42 (.map (mF (N z))) (.agg #[.string s,.int .i64 k]) false).run Tryz.prog w'=.ok (.agg #[.map (mF (N (z++[(s,k)]))),.map (mS (N (z++[(s,k)])))]) w'):=hid (fun w' b=>(hT.below b).look z (s,k) hk);obtain⟨u0,hu0⟩:∃u,mF (N z)=u:=⟨_,rfl⟩;obtain⟨u1,hu1⟩:∃u,mS (N z)=u:=⟨_,rfl⟩;obtain⟨v0,hv0⟩:∃u,mF (N (z++[(s,k)]))=u:=⟨_,rfl⟩;obtain⟨v1,hv1⟩:∃u,mS (N (z++[(s,k)]))=u:=⟨_,rfl⟩;rw [hu0,hv0,hv1] at HLK;rw [hu0,hu1,hv0,hv1];obtain⟨W,hW⟩:∃W,((w.alloc (.cells #[.map u0,.map u1,.map kn] 49)).alloc (.cells #[.string s,.int .i64 k] 102)).alloc (.cells #[.map none,.map none,.map none] 49)=W:=⟨_,rfl⟩;have b0:Below w.heap.size w W:=by rw [<- hW];exact(((Below.refl _ _).alloc (Nat.le_refl _) _).alloc (by simp) _).alloc (by simp;omega) _
 have X0:Bx3 W w.heap.size (.map u0) (.map u1) (.map kn):=by
  rw [<- hW];exact((Bx3.made w (.map u0) (.map u1) (.map kn) 49).below ((Below.refl _ _).alloc (Nat.le_refl _) _) (Bx3.made w (.map u0) (.map u1) (.map kn) 49).lt).below ((Below.refl _ _).alloc (Nat.le_refl _) _) (by simp;omega)
 have X1:Bx2 W (w.heap.size+1) (.string s) (.int .i64 k):=by
  rw [<- hW];have:=Bx2.made (w.alloc (.cells #[.map u0,.map u1,.map kn] 49)) (.string s) (.int .i64 k) 102;exact(by simpa using this:Bx2 _ (w.heap.size+1) _ _).below ((Below.refl _ _).alloc (Nat.le_refl _) _) (by simp)
 have X2:Bx3 W (w.heap.size+1+1) (.map none) (.map none) (.map none):=by
  rw [<- hW];simpa using Bx3.made ((w.alloc (.cells #[.map u0,.map u1,.map kn] 49)).alloc (.cells #[.string s,.int .i64 k] 102)) (.map none) (.map none) (.map none) 49
 have LK:(Instr.lookup 42 (.map u0) (.agg #[.string s,.int .i64 k]) false).run Tryz.prog W.drew=.ok (.agg #[.map v0,.map v1]) W.drew:=HLK.out _ ⟨b0.os,b0.tape,b0.output,b0.size,b0.block⟩;have x0:=X0.c0;have x2:=X0.c2;have y0:=X1.c0;have y1:=X1.c1;have z0:=X2.c0;have z1:=X2.c1;have z2:=X2.c2;have f0:=X2.f 0;have f1:=X2.f 1;have f2:=X2.f 2;have HZ:=hid b0;have HX2:=hid X2;clear b0 X0 X1 X2 hu0 hu1 hv0 hv1 hT HLK;go_enter Tryz.func66,Tryz.ntmps66;go_wp2_with fail;go_region;have HC:=hid (HX2.out.set (.map v0) (.map v1) (.map kn));go_wp2_with fail;have r0:=HC.out.c0;have r1:=HC.out.c1;have r2:=HC.out.c2;refine bodyPost_ret (v:=.agg #[.map v0,.map v1,.map kn]) (by simp [results,Tryz.results66,go_sem,r0,r1,r2]) rfl ⟨rfl,?_⟩;exact(((HZ.out.setCell (by simp;omega) _).setCell (by simp;omega) _).setCell (by simp;omega) _).drew
def Bears (g1:Ky ->Option (Nat×Nat))(g2:Dt ->Option ByteArray):Prop:=(∃y,g1 y≠none) \/(∃d,g2 d≠none)
theorem hangC (x0 x1:Nat×Nat)(s:ByteArray)(k:Int)(c:Nat)(f g1:Ky ->Option (Nat×Nat))(g2:Dt ->Option ByteArray)(w:World)(kl:Lit)(hk:keyOf Tryz.prog 102 (keyV (s,k))=some kl)
  (hF:MapF w 102 keyV nodV x0.1 c f) (h1:MapF w 102 keyV nodV x1.1 c g1) (h2:MapF w 63 dtV mrkV x1.2 c g2) (hc:c<1048576):
  Calls Tryz.prog 65 #[.agg #[.map (some x0.1),.map (some x0.2)],.agg #[.string s,.int .i64 k],.agg #[.map (some x1.1),.map (some x1.2)]] w fun e w'=>e=.returned (.tuple #[])/\ w.grownBy w' (some x0.1)/\
   (Bears g1 g2 ->MapF w' 102 keyV nodV x0.1 (c+1) (updF f (s,k) (some x1)))/\ (¬Bears g1 g2 ->Below w.heap.size w w'):=by
 obtain⟨W,hW⟩:∃W,((w.alloc (.cells #[.map (some x0.1),.map (some x0.2)] 45)).alloc (.cells #[.string s,.int .i64 k] 102)).alloc (.cells #[.map (some x1.1),.map (some x1.2)] 45)=W:=⟨_,rfl⟩;have b0:Below w.heap.size w W:=by rw [<- hW];exact(((Below.refl _ _).alloc (Nat.le_refl _) _).alloc (by simp) _).alloc (by simp;omega) _
 have X0:Bx2 W w.heap.size (.map (some x0.1)) (.map (some x0.2)):=by
  rw [<- hW];exact((Bx2.made w (.map (some x0.1)) (.map (some x0.2)) 45).allocs _).allocs _
 have X1:Bx2 W (w.heap.size+1) (.string s) (.int .i64 k):=by
  rw [<- hW];have:=Bx2.made (w.alloc (.cells #[.map (some x0.1),.map (some x0.2)] 45)) (.string s) (.int .i64 k) 102;exact(by simpa using this:Bx2 _ (w.heap.size+1) _ _).allocs _
 have X2:Bx2 W (w.heap.size+1+1) (.map (some x1.1)) (.map (some x1.2)):=by
  rw [<- hW];simpa using Bx2.made ((w.alloc (.cells #[.map (some x0.1),.map (some x0.2)] 45)).alloc (.cells #[.string s,.int .i64 k] 102)) (.map (some x1.1)) (.map (some x1.2)) 45
 obtain⟨n1,hn1,hn1c,hn1i⟩:=(MapF.same h1 (b0.block _ h1.lt)).len keyKeyed Tryz.underlying42;obtain⟨n2,hn2,hn2c,hn2i⟩:=(MapF.same h2 (b0.block _ h2.lt)).len dotKeyed Tryz.underlying43;have HF:=hid (MapF.same hF (b0.block _ hF.lt));have HI:=hid (And.intro hn1i hn2i);have HG0:Hid (w.grownBy W (some x0.1)):=hid ⟨b0.os,b0.tape,b0.output,b0.size,fun k hk _=>b0.block k hk⟩;have HB0:=hid b0;have HC:Hid (c<maxLen):=hid (by unfold maxLen;omega);have HKL:=hid hk;have x00:=X0.c0;have x10:=X1.c0;have x11:=X1.c1;have x20:=X2.c0;have x21:=X2.c1;have n1z:(0:Int)<=(n1:Int):=Int.natCast_nonneg _;have n2z:(0:Int)<=(n2:Int):=Int.natCast_nonneg _;have KEEP:∀w9,MapF w9 102 keyV nodV x0.1 (c+1) (updF f (s,k) (some x1)) ->W.grownBy w9 (some x0.1) ->Bears g1 g2 ->w.grownBy w9 (some x0.1)/\
   (Bears g1 g2 ->MapF w9 102 keyV nodV x0.1 (c+1) (updF f (s,k) (some x1)))/\ (¬Bears g1 g2 ->Below w.heap.size w w9):=fun w9 h9 g9 hh=>⟨HG0.out.trans g9,fun _=>h9,fun hn=>absurd hh hn⟩
 have HKP:=hid KEEP;clear b0 X0 X1 X2 hF h1 h2 hc hk hn1i hn2i KEEP;by_cases e1:0<n1
 ·have d1:decide (0<n1)=true:=by simpa using e1
  have HE:Hid (Bears g1 g2):=hid (Or.inl (HI.out.1.1 e1));clear e1;go_enter Tryz.func65,Tryz.ntmps65;go_wp2_with (refine wpList_mapUpdate_F _ rfl _ _ _ 42 rfl 102 45 keyKeyed keyV (fun _ _=>keyV_inj) Tryz.underlying42 nodV x0.1 c f rfl HF.out HC.out (s,k) x1 kl rfl rfl HKL.out ?_;intro w9 hm9 hg9);have H9:=hid (HKP.out w9 hm9 hg9 HE.out);clear hm9 hg9;go_end0;exact⟨rfl,H9.out⟩
 ·obtain rfl:n1=0:=by omega
  by_cases e2:0<n2
  ·have d2:decide (0<n2)=true:=by simpa using e2
   have HE:Hid (Bears g1 g2):=hid (Or.inr (HI.out.2.1 e2));clear e1 e2;go_enter Tryz.func65,Tryz.ntmps65;go_wp2_with (refine wpList_mapUpdate_F _ rfl _ _ _ 42 rfl 102 45 keyKeyed keyV (fun _ _=>keyV_inj) Tryz.underlying42 nodV x0.1 c f rfl HF.out HC.out (s,k) x1 kl rfl rfl HKL.out ?_;intro w9 hm9 hg9);have H9:=hid (HKP.out w9 hm9 hg9 HE.out);clear hm9 hg9;go_end0;exact⟨rfl,H9.out⟩
  ·obtain rfl:n2=0:=by omega
   have HE:Hid (¬Bears g1 g2):=hid (fun h=>Or.elim h (fun h=>e1 (HI.out.1.2 h)) (fun h=>e2 (HI.out.2.2 h)));clear e1 e2;go_enter Tryz.func65,Tryz.ntmps65;go_wp2_with fail;go_end0;exact⟨rfl,HG0.out,fun h=>absurd h HE.out,fun _=>HB0.out⟩
theorem gr_frozen {w w':World}{row:Option Nat}{a:Addr}(hg:w.grownBy w' row)(hlt:a.block<w.heap.size)(hne:some a.block≠row):w'.frozen? a=w.frozen? a:=by
 unfold World.frozen?;rw [hg.block a.block hlt hne]
theorem Bx3.gr {w w':World}{b:Nat}{v0 v1 v2:Value}{row:Option Nat}(h:Bx3 w b v0 v1 v2)(hg:w.grownBy w' row)(hr:∀k,row=some k ->k≠b):Bx3 w' b v0 v1 v2:=
 have ne:some b≠row:=fun e=>hr b e.symm rfl
 ⟨hg.cell h.c0 ne,hg.cell h.c1 ne,hg.cell h.c2 ne,fun i=>(gr_frozen hg h.lt ne).trans (h.f i),Nat.lt_of_lt_of_le h.lt hg.size⟩
theorem Bx2.gr {w w':World}{b:Nat}{v0 v1:Value}{row:Option Nat}(h:Bx2 w b v0 v1)(hg:w.grownBy w' row)(hr:∀k,row=some k ->k≠b):Bx2 w' b v0 v1:=
 have ne:some b≠row:=fun e=>hr b e.symm rfl
 ⟨hg.cell h.c0 ne,hg.cell h.c1 ne,fun i=>(gr_frozen hg h.lt ne).trans (h.f i),Nat.lt_of_lt_of_le h.lt hg.size⟩
theorem below_gr {w w':World}(b:Below w.heap.size w w')(row:Option Nat):w.grownBy w' row:=⟨b.os,b.tape,b.output,b.size,fun k hk _=>b.block k hk⟩
structure JB (w:World)(s t:Nat)(a0 a1 a2 b0 b1 b2:Option Nat)(x0:Nat×Nat):Prop where
 a:Bx3 w s (.map a0) (.map a1) (.map a2)
 b:Bx3 w (s+1) (.map b0) (.map b1) (.map b2)
 r:Bx2 w (s+1+1) (.map none) (.map none)
 j:Bx2 w t (.map (some x0.1)) (.map (some x0.2))
section
variable {w w' : World} {s t : Nat} {a0 a1 a2 b0 b1 b2 : Option Nat} {x0 : Nat × Nat}
theorem JB.gr {row:Option Nat}(h:JB w s t a0 a1 a2 b0 b1 b2 x0)(hg:w.grownBy w' row)(hr:∀k,row=some k ->k≠s/\ k≠s+1/\ k≠s+1+1/\ k≠t):JB w' s t a0 a1 a2 b0 b1 b2 x0:=
 ⟨h.a.gr hg (fun k e=>(hr k e).1),h.b.gr hg (fun k e=>(hr k e).2.1),h.r.gr hg (fun k e=>(hr k e).2.2.1),h.j.gr hg (fun k e=>(hr k e).2.2.2)⟩
theorem JB.below (h:JB w s t a0 a1 a2 b0 b1 b2 x0)(hb:Below w.heap.size w w'):JB w' s t a0 a1 a2 b0 b1 b2 x0:=h.gr (below_gr hb none) (fun k e=>by cases e)
end
section
variable {w w' : World} {B c : Nat} {N : List Ky -> Option (Nat × Nat)} {M : List Ky -> Dt -> Option ByteArray}
theorem Tre.lower {B':Nat}(h:Tre w B N M c)(hB:B'<=B):Tre w B' N M c:=⟨h.kids,h.marks,h.apart,fun p x hx=>by have:=h.lo p x hx;omega,h.none',h.up⟩
theorem Tre.mo_marks (h:Tre w B N M c)(z:List Ky):MO w 63 dtV mrkV (mS (N z)) c (M z):=by
 cases e:N z with
 | none=>exact fun x=>by rw [h.none' z e]
 | some x=>exact h.marks z x e
theorem Tre.mo_kids (h:Tre w B N M c)(z:List Ky):MO w 102 keyV nodV (mF (N z)) c (fun y=>N (z++[y])):=by
 cases e:N z with
 | none=>exact fun x=>h.up z x e
 | some x=>exact h.kids z x e
end
section
variable {w w' : World} {B c : Nat} {J : List Lf} {z : List Ky} {K : Ky -> Prop} {N N1 : List Ky -> Option (Nat × Nat)} {x0 x1 : Nat × Nat}
theorem JT.congr {K':Ky ->Prop}(h:JT w B J z K N c x0)(hK:∀u,K u↔K' u):JT w B J z K' N c x0:=by
 have:K=K':=funext fun u=>propext (hK u);rw [<- this];exact h
theorem JT.mono {c':Nat}(h:JT w B J z K N c x0)(hc:c<=c'):JT w B J z K N c' x0:=⟨h.tre.mono hc,h.root,h.there⟩
theorem JT.below (h:JT w B J z K N c x0)(hb:Below w.heap.size w w'):JT w' B J z K N c x0:=⟨h.tre.below hb,h.root,h.there⟩
theorem JT.kept' {r:Nat}(h:JT w B J z K N c x0)(hg:w.grownBy w' (some r))(hr:∀es cl,w.heap[r]? ≠some (.map es cl)):JT w' B J z K N c x0:=
 ⟨h.tre.same fun p x hx=>⟨hg.block _ (h.tre.lt hx).1 (fun e=>by obtain⟨es,cl,ho⟩:=(h.tre.kids p x hx).obj;injection e with e;rw [e] at ho;exact hr es cl ho),hg.block _ (h.tre.lt hx).2 (fun e=>by obtain⟨es,cl,ho⟩:=(h.tre.marks p x hx).obj;injection e with e;rw [e] at ho;exact hr es cl ho)⟩,h.root,h.there⟩
theorem JT.round {w8 w9 w10:World}{y:Ky}(h:JT w8 B J z K N c x0)(b9:Below w8.heap.size w8 w9)(h1:JF w9 w8.heap.size J (z++[y]) N1 c x1)(hB:B<=w8.heap.size)(hy:¬K y)(hg:w9.grownBy w10 (some x0.1))
  (hm:Bears (fun u=>N1 [u]) (Mk J J.length (z++[y])) ->MapF w10 102 keyV nodV x0.1 (c+1) (updF (fun u=>N [u]) y (some x1))) (hn:¬Bears (fun u=>N1 [u]) (Mk J J.length (z++[y])) ->Below w9.heap.size w9 w10):
  ∃N',JT w10 B J z (fun u=>K u \/u=y) N' (c+1) x0:=by
 by_cases e:Bears (fun u=>N1 [u]) (Mk J J.length (z++[y]))
 ·refine⟨_,(h.below b9).hang ⟨h1.tre.lower hB,h1.root,h1.there⟩ hy (h1.bears.2 e) (fun p q a b ha hb=> ?_) hg ((hm e).ext fun u=> ?_)⟩
  ·have g1:=h.tre.lt ha;have g2:=h1.tre.lo q b hb;omega
  ·unfold updF;by_cases e:u=y<;>simp [e]
 ·exact⟨N,((h.below b9).skip hy (fun ha=>e (h1.bears.1 ha))).below (hn e)|>.mono (Nat.le_succ _)⟩
end
theorem JB.sees {w:World}{s t u:Nat}{a0 a1 a2 b0 b1 b2:Option Nat}{x0:Nat×Nat}{ks:ByteArray}{kk:Int}(h:JB w s t a0 a1 a2 b0 b1 b2 x0)(hk:Bx2 w u (.string ks) (.int .i64 kk)):
  w.cell? ⟨t,0,none⟩=some (.map (some x0.1))/\ w.cell? ⟨t,1,none⟩=some (.map (some x0.2))/\ w.cell? ⟨u,0,none⟩=some (.string ks)/\ w.cell? ⟨u,1,none⟩=some (.int .i64 kk)/\ w.cell? ⟨s,0,none⟩=some (.map a0)/\ w.cell? ⟨s,1,none⟩=some (.map a1)/\ w.cell? ⟨s,2,none⟩=some (.map a2)/\ w.cell? ⟨s+1,0,none⟩=some (.map b0)/\ w.cell? ⟨s+1,1,none⟩=some (.map b1)/\ w.cell? ⟨s+1,2,none⟩=some (.map b2):=
 ⟨h.j.c0,h.j.c1,hk.c0,hk.c1,h.a.c0,h.a.c1,h.a.c2,h.b.c0,h.b.c1,h.b.c2⟩
end Go.Proofs.YtpfmeafmepgimaaGreat
