import Derived.Test.YtpfmeafmepgimaaGreatFkg02
import Derived.Maps.Own
import Derived.Maps.OwnSet
import Derived.Maps.OwnOps
import Derived.Maps.AppendAt
import Derived.Maps.Views
import Derived.Test.YtpfmeafmepgimaaGreatFkg01
import Derived.Deep.QuietTactic
import Derived.BigQuiet
import Derived.Laws.IdiomStrings
set_option linter.unusedVariables false
set_option linter.unusedSimpArgs false
set_option maxRecDepth 100000
set_option maxHeartbeats 40000000
namespace Go.Proofs.YtpfmeafmepgimaaGreat
open Go.ChangeShapes Go.WideShapes Go.ChangeAt Go.RowKit Go.Maps
def rawR (v:Value):Option (DataW Value×List MemPlace):=match v with
 | .slice a n c=>some (.held (.slice a n c),[])
 | _=>none
theorem rawR_inv {v:Value}{d:DataW Value}{ps:List MemPlace}(h:rawR v=some (d,ps)):d=.held v/\∃a n c,v=.slice a n c:=by
 unfold rawR at h;split at h
 ·simp at h;exact⟨h.1.symm,_,_,_,rfl⟩
 ·cases h
theorem rawR_own {w:World}{B:Nat}{e:TypeId}{size:Nat}{v:Value}{n:Nat}{xs:List Value}(h:w.ownsRow B e size v n xs):rawR v=some (.held v,[]):=by
 rcases h.2 with ⟨rfl,_⟩|⟨g,cap,cur,rfl,_⟩<;>rfl
def kI (r:Int):Lit:=.int .i64 r
def upd {α:Type}(G:Int ->α)(r:Int)(v:α)(x:Int):α:=if x=r then v else G x
theorem upd_same {α:Type}(G:Int ->α)(r:Int)(v:α):upd G r v r=v:=if_pos rfl
theorem upd_other {α:Type}(G:Int ->α){r x:Int}(v:α)(h:x≠r):upd G r v x=G x:=if_neg h
theorem kI_ne {r x:Int}(h:x≠r):kI x≠kI r:=fun e=>h (by unfold kI at e;injection e)
def spanCells (l:List (Int×Int)):List Value:=l.flatMap fun p=>[.int .i64 p.1,.int .i64 p.2]
theorem spanCells_append (l:List (Int×Int))(p:Int×Int):spanCells (l++[p])=spanCells l++[.int .i64 p.1,.int .i64 p.2]:=by simp [spanCells]
structure GrpAt (w:World)(bm n:Nat)(D:DataW Value)(G:Int ->Value)(L:Int ->List (Int×Int)):Prop where
 own:w.ownsMap Tryz.prog 3 rawR bm n D
 at':∀r,D.atKey (kI r) (.held (.slice none 0 0))=.held (G r)
 has':∀r,Maps.has D (kI r)= !(L r).isEmpty
 rows:∀r,w.ownsRow (bm+1) 121 2 (G r) (L r).length (spanCells (L r))
 apart:∀r r' g,(G r).ownBlock=some g ->(G r').ownBlock=some g ->r=r'
theorem GrpAt.below {w w1:World}{bm n:Nat}{D:DataW Value}{G:Int ->Value}{L:Int ->List (Int×Int)}(h:GrpAt w bm n D G L)(hb:Below w.heap.size w w1):GrpAt w1 bm n D G L:=
 ⟨h.own.kept ⟨hb.os,hb.tape,hb.output,hb.size,fun k hk _=>hb.block k hk⟩ (by simp:some bm≠none),h.at',h.has',fun r=>owns_below (h.rows r) hb (fun k hk=>((h.rows r).lt k hk).2),h.apart⟩
theorem GrpAt.step {w w1 w2 w3:World}{bm n:Nat}{D:DataW Value}{G:Int ->Value}{L:Int ->List (Int×Int)}{v':Value}{r f t:Int}(h:GrpAt w bm n D G L)
  (hb:Below w.heap.size w w1) (hown:w2.ownsRow (bm+1) 121 2 v' ((L r).length+1) (spanCells (L r)++[.int .i64 f,.int .i64 t]))
  (hgr:w1.grownBy w2 (G r).ownBlock) (hloc:v'.ownBlock=(G r).ownBlock \/v'.ownBlock=some w1.heap.size)
  (hD:w3.ownsMap Tryz.prog 3 rawR bm (n+1) (D.put (kI r) (.held v'))) (hgr3:w2.grownBy w3 (some bm)):
  GrpAt w3 bm (n+1) (D.put (kI r) (.held v')) (upd G r v') (upd L r (L r++[(f,t)])):=by
 have h1:=h.below hb;have nb:∀(w:World) (v:Value) (m:Nat) (xs:List Value),w.ownsRow (bm+1) 121 2 v m xs ->v.ownBlock=none \/v.ownBlock≠some bm:=by
  intro w v m xs ho;cases e:v.ownBlock with
  | none=>exact .inl rfl
  | some g=>exact .inr (fun e2=>by have:=(ho.lt g e).1;injection e2 with e2;omega)
 refine⟨hD,fun x=> ?_,fun x=> ?_,fun x=> ?_,?_⟩
 ·by_cases e:x=r
  ·subst e;rw [upd_same,atKey_put_same h.own.isMap (show WideAt.IsKeyLit (kI x) from trivial)]
  ·rw [upd_other G v' e,atKey_put_other (kI_ne e)];exact h.at' x
 ·by_cases e:x=r
  ·subst e;rw [upd_same,has_put_same h.own.isMap (show WideAt.IsKeyLit (kI x) from trivial)];simp
  ·rw [upd_other L _ e,has_put_other (kI_ne e)];exact h.has' x
 ·by_cases e:x=r
  ·subst e;rw [upd_same,upd_same,spanCells_append,List.length_append];exact hown.kept hgr3 (nb _ _ _ _ hown)
  ·rw [upd_other G v' e,upd_other L _ e];have hx:=h1.rows x;have hk:(G x).ownBlock=none \/(G x).ownBlock≠(G r).ownBlock:=by
    cases e1:(G x).ownBlock with
    | none=>exact .inl rfl
    | some g=>exact .inr (fun e2=>e (h.apart x r g e1 e2.symm))
   have h2:=hx.kept hgr hk;exact h2.kept hgr3 (nb _ _ _ _ h2)
 ·intro x y g hx hy;have key:∀z,z≠r ->∀g,(G z).ownBlock=some g ->v'.ownBlock=some g ->False:=by
   intro z hz g h1' h2';rcases hloc with hl|hl
   ·exact hz (h.apart z r g h1' (hl ▸ h2'))
   ·rw [hl] at h2';have a1:=((h.rows z).lt g h1').2;have a2:=hb.size;injection h2' with h2';omega
  by_cases ex:x=r
  ·subst ex;rw [upd_same] at hx;by_cases ey:y=x
   ·exact ey.symm
   ·rw [upd_other G v' ey] at hy;exact(key y ey g hy hx).elim
  ·rw [upd_other G v' ex] at hx;by_cases ey:y=r
   ·subst ey;rw [upd_same] at hy;exact(key x ex g hx hy).elim
   ·rw [upd_other G v' ey] at hy;exact h.apart x y g hx hy
def Lk (R F T:Nat ->Int):Nat ->Int ->List (Int×Int)
 | 0=>fun _=>[]
 | k+1=>upd (Lk R F T k) (R k) (Lk R F T k (R k)++[(F k,T k)])
theorem Lk_len (R F T:Nat ->Int)(k:Nat):∀r,(Lk R F T k r).length<=k:=by
 induction k with
 | zero=>intro r;simp [Lk]
 | succ k ih=>
  intro r;by_cases e:r=R k
  ·subst e;simp only [Lk];rw [upd_same];have:=ih (R k);simp;omega
  ·simp only [Lk];rw [upd_other _ _ e];have:=ih r;omega
theorem zeroSpans (w:World):(zeroValue 109).run Tryz.prog w=.ok (.slice none 0 0) w:=by kernel_rfl
theorem wfI {r:Int}(h0: -9223372036854775808<=r)(h1:r<=9223372036854775807):(Lit.int .i64 r).wf=true:=by
 have e0:IntKind.i64.min= -9223372036854775808:=by decide
 have e1:IntKind.i64.max=9223372036854775807:=by decide
 simp only [Lit.wf,e0,e1,Bool.and_eq_true,decide_eq_true_iff];exact⟨h0,h1⟩
theorem GrpAt.look {w:World}{bm n:Nat}{D:DataW Value}{G:Int ->Value}{L:Int ->List (Int×Int)}(h:GrpAt w bm n D G L)(r:Int)(hr:(Lit.int .i64 r).wf=true):
  (Instr.lookup 47 (.map (some bm)) (.int .i64 r) false).run Tryz.prog w=.ok (G r) w:=by
 obtain⟨v,ps,hrun,hv⟩:=h.own.lookup (int_keyed Tryz.underlying3) Tryz.underlying47 (zeroSpans w) (zd:=.held (.slice none 0 0)) (zp:=[]) rfl (keyOf_int_mk Tryz.underlying3 hr);have:=h.at' r;obtain⟨hd,_⟩:=rawR_inv hv;unfold kI at this;rw [this] at hd;have e:v=G r:=by injection hd with hd;exact hd.symm
 rw [hrun,e]
theorem Tryz.infoSpan:(Tryz.prog.info? 121).map (fun i=>(i.zero,i.size,i.bytes))=some (some (.agg #[.int .i64 0,.int .i64 0]),2,16):=by kernel_rfl
theorem ready2 {P:Program}{ops:Array Oper}{Q:Exit ->Act ->World ->Prop}{md:Region.Mode}{S:World ->Prop}{i j:Nat}{d d':Option Tmp}{fuel:Nat}{listed:Array Bool}{a:Act}{w:World}
  (hd:ops[i]?.map (fun o=>o.dst)=some d) (hd':ops[j]?.map (fun o=>o.dst)=some d') (hr:Region.ready md ops listed=[i,j])
  (h:∀o,ops[i]? =some o ->o.dst=d ->∀K':Act ->World ->Prop,Shut (∀a w,S w ->(S w ->wpAnyH P md ops Q S fuel (listed.setIfInBounds i true) a w) ->K' a w) ->if Region.wanted o (yielded ops a.tmps)=true then Oper.wp P o a w K' Q else K' (a.put o.dst undef) w)
  (h':∀o,ops[j]? =some o ->o.dst=d' ->∀K':Act ->World ->Prop,Shut (∀a w,S w ->(S w ->wpAnyH P md ops Q S fuel (listed.setIfInBounds j true) a w) ->K' a w) ->if Region.wanted o (yielded ops a.tmps)=true then Oper.wp P o a w K' Q else K' (a.put o.dst undef) w):
  wpAnyH P md ops Q S (fuel+1) listed a w:=by
 obtain⟨o,ho,hod⟩:=Option.map_eq_some_iff.1 hd;obtain⟨o',ho',hod'⟩:=Option.map_eq_some_iff.1 hd';exact wpAnyH_ready hr (by simp) (AllReadyH.cons ho (h o ho hod) (AllReadyH.cons ho' (h' o' ho' hod') AllReadyH.nil))
theorem wp_app_at {P:Program}{o:Oper}{a:Act}{w:World}{K:Act ->World ->Prop}{Q:Exit ->Act ->World ->Prop}(s x:Operand)(t:TypeId)
  (ho:o.op=.call {callee:=.builtin .append,args:=#[s,x],argTypes:=#[t,t]})
  (base:Nat) (e:TypeId) (i:TypeInfo) (z:Value) (size bytes:Nat) (ht:P.underlying t=some (.slice e)) (hi:P.info? e=some i) (hz:i.zero=some z)
  (hsize:i.size=size) (hby:i.bytes=bytes) (hzs:z.cells.size=size) (hsz:0<size)
  (v:Value) (n:Nat) (xs:List Value) (hs:a.eval s=v) (hown:w.ownsRow base e size v n xs)
  (ad:Addr) (m c:Nat) (news:List Value) (hx:a.eval x=.slice (some ad) m c) (hl:news.length=m*size) (hnews:∀j u,news[j]? =some u ->w.cell? (ad.add j)=some u) (h1:∀u∈news,u.oneCell'=true)
  (h63:n+m<=maxLen) (hbytes:(n+m)*bytes<=140737488355328) (hbase:base<=w.heap.size)
  (h:∀v' w',w'.ownsRow base e size v' (n+m) (xs++news) ->w.grownBy w' v.ownBlock ->(v'.ownBlock=v.ownBlock \/v'.ownBlock=some w.heap.size) ->K (a.put o.dst v') w'):o.wp P a w K Q:=by
 obtain⟨v',w',hr,h2,h3,h4,h5⟩:=run_append_own_at (P:=P) w base t o.type e i z size bytes ht hi hz hsize hby hzs hsz v n xs hown ad m c news hl hnews h1 h63 hbytes hbase;unfold Oper.wp execOp;simp only [ho,resolve,invoke,builtin,Sem.run_bind,Sem.run_pure,Result.andThen_ok,List.map_toArray,List.map_cons,List.map_nil,hs,hx,hr];exact h v' w' h2 h3 h5
theorem wp_put_own {H:Type}{P:Program}(w:World){o:Oper}{a:Act}{K:Act ->World ->Prop}{Q:Exit ->Act ->World ->Prop}
  (m x v:Operand) (t:TypeId) (hop:o.op=Op.mapUpdate t m x v)
  (k e:TypeId) (Kd:Keyed P k) (ht:P.underlying t=some (.map k e)) (R:Value ->Option (DataW H×List MemPlace)) (b n:Nat) (D:DataW H)
  (hm:a.eval m=.map (some b)) (hown:w.ownsMap P k R b n D) (hn:n<maxLen) (key val:Value) (kl:Lit) (hx:a.eval x=key) (hv:a.eval v=val) (hkey:keyOf P k key=some kl)
  (d:DataW H) (ps:List MemPlace) (hval:R val=some (d,ps))
  (hK:∀w',w'.ownsMap P k R b (n+1) (D.put kl d) ->w.grownBy w' (some b) ->K (a.put o.dst undef) w'):o.wp P a w K Q:=by
 obtain⟨w',hrun,r1,r2⟩:=hown.update Kd ht hn hkey hval;unfold Oper.wp;simp [execOp,hop,hm,hx,hv,hrun,Result.andThen];exact hK _ r1 r2
theorem grp_made (w:World):GrpAt (w.alloc (.map #[] 0)) w.heap.size 0 (.map []) (fun _=> .slice none 0 0) (fun _=>[]):=
 ⟨World.ownsMap_made w _ _ _,fun r=>rfl,fun r=>rfl,fun r=>World.ownsRow_nil _ _ _ _,fun r r' g h _=>by cases h⟩
theorem keep3 {w w':World}{row:Option Nat}{B:Nat}{x y z:Value}(hg:w.grownBy w' row)(h0:w.cell? ⟨B,0,none⟩=some x)(h1:w.cell? ⟨B,1,none⟩=some y)(h2:w.cell? ⟨B,2,none⟩=some z)(hne:some B≠row):
  w'.cell? ⟨B,0,none⟩=some x/\ w'.cell? ⟨B,1,none⟩=some y/\ w'.cell? ⟨B,2,none⟩=some z:=⟨hg.cell h0 hne,hg.cell h1 hne,hg.cell h2 hne⟩
theorem openC (a:Option Addr)(n c:Nat)(R F T:Nat ->Int)(w:World)(hn:n<=1048576)(h:RSeg w a n R F T)(hok:ctxB R F T n=true):
  Calls Tryz.prog 61 #[.agg #[.slice a n c]] w fun e w'=>∃bm D G,e=.returned (.tuple #[.map (some bm),.bool true])/\ GrpAt w' bm n D G (Lk R F T n)/\ w.heap.size<=bm/\ Below w.heap.size w w':=by
 have hmm:=@run_makeMap Tryz.prog;have hokT:=(ctxB_iff.1 hok);obtain⟨i0,hi,hz0,hz1,hz2⟩:=info_parts Tryz.infoSpan;have B0:Below w.heap.size w (w.alloc (.cells #[.slice a n c] 26)):=(Below.refl _ _).alloc (Nat.le_refl _) _;have HOK:=hid hokT;clear hokT;go_enter Tryz.func61,Tryz.ntmps61;go_wp2_with fail;refine(implOk a n c R F T _ hn (h.below B0)).mono ?_;rintro e w1 ⟨rfl,b1⟩;rw [hok];have hbox:w1.cell? ⟨w.heap.size,0,none⟩=some (.slice a n c):=by rw [(bcell b1).1 _ _ (by simp)];simp
 have B1:=keepS B0 b1;have z1:w.heap.size<w1.heap.size:=by have:=b1.size;simp at this;omega
 clear b1 B0 hok;rcases h with h|⟨b,off,rfl,hb,hc⟩
 ·subst h;have HB1:=hid B1;clear B1;go_wp2_with fail;refine wp_loop_rounds 1 ?_;rw [rounds_succ];go_wp2_with fail;go_ret2;exact⟨w1.heap.size,_,_,rfl,grp_made w1,by omega,(HB1.out.alloc (by omega) _)⟩
 have HB1:=hid B1;clear B1;go_wp2_with fail;go_loopw [14] (fun i wr=>∃(k:Nat) (D:DataW Value) (G:Int ->Value),k<=n/\ i=.int .i64 k/\ GrpAt wr w1.heap.size k D G (Lk R F T k)/\ Below w.heap.size w wr/\ w1.heap.size<wr.heap.size) (fun i _=>n - (intOf i).toNat);case atStart=>exact⟨0,_,_,Nat.zero_le _,rfl,grp_made w1,HB1.out.alloc (by omega) _,by simp⟩
 case round=>
  obtain⟨k,D,G,hk,rfl,hgrp,hbel,hsz⟩:=hrel;by_cases hlt:k<n
  ·have hck:wr.cell? ⟨b,off+k*3,none⟩=some (.int .i64 (R k)):=(hbel.cell (p:=⟨b,_,none⟩) hb).trans (hc k hlt).1;have hck1:wr.cell? ⟨b,off+k*3+1,none⟩=some (.int .i64 (F k)):=(hbel.cell (p:=⟨b,_,none⟩) hb).trans (hc k hlt).2.1;have hck2:wr.cell? ⟨b,off+k*3+2,none⟩=some (.int .i64 (T k)):=(hbel.cell (p:=⟨b,_,none⟩) hb).trans (hc k hlt).2.2;have hro:=runOk_iff.1 ((HOK.out.1 k hlt).1);have hwf:(Lit.int .i64 (R k)).wf=true:=wfI (by omega) (by omega);have hln:=HOK.out.2;have hL:=Lk_len R F T k (R k);obtain⟨W1,hW1⟩:∃W1,wr.alloc (.cells #[.int .i64 (R k),.int .i64 (F k),.int .i64 (T k)] 87)=W1:=⟨_,rfl⟩;have zW:W1.heap.size=wr.heap.size+1:=by rw [<- hW1];simp
   have bW:Below wr.heap.size wr W1:=by rw [<- hW1];exact(Below.refl _ _).alloc (Nat.le_refl _) _
   have r0:W1.cell? ⟨wr.heap.size,0,none⟩=some (.int .i64 (R k)):=by rw [<- hW1];simp
   have r1:W1.cell? ⟨wr.heap.size,1,none⟩=some (.int .i64 (F k)):=by rw [<- hW1];simp
   have r2:W1.cell? ⟨wr.heap.size,2,none⟩=some (.int .i64 (T k)):=by rw [<- hW1];simp
   have hmne:some w1.heap.size≠(G (R k)).ownBlock:=fun e=>by have:=((hgrp.rows (R k)).lt _ e.symm).1;omega
   have hne:some wr.heap.size≠(G (R k)).ownBlock:=fun e=>by have:=((hgrp.rows (R k)).lt _ e.symm).2;omega
   have g1:=hgrp.below (bW.drew);have hl1:=g1.look (R k) hwf;obtain⟨W2,hW2⟩:∃W2,W1.alloc (.cells #[.int .i64 (F k),.int .i64 (T k)] 121)=W2:=⟨_,rfl⟩;have bW12:Below W1.heap.size W1 W2:=by rw [<- hW2];exact(Below.refl _ _).alloc (Nat.le_refl _) _
   have hW2s:W2.drew.heap.size=wr.heap.size+2:=by show W2.heap.size=_;rw [<- hW2];simp;omega
   have b2:Below wr.heap.size wr W2.drew:=(bW.trans (bW12.mono (by omega))).drew;have g2:=hgrp.below b2;have hl2:=g2.look (R k) hwf;have HNEW:Hid (∀j u,[Value.int .i64 (F k),.int .i64 (T k)][j]? =some u ->W2.drew.cell? ((⟨wr.heap.size+1,0,none⟩:Addr).add j)=some u):=by rw [<- hW2,<- zW];exact cell_two_new _ _ _ _
   have HROW:=hid (g2.rows (R k));have HMAP:=hid g2.own;have HGRP:=hid hgrp;have HB2:=hid b2;have HB:=hid hbel;have c20:=(bW12.cell (p:=⟨wr.heap.size,0,none⟩) (show wr.heap.size<W1.heap.size by omega)).trans r0;have c21:=(bW12.cell (p:=⟨wr.heap.size,1,none⟩) (show wr.heap.size<W1.heap.size by omega)).trans r1;have c22:=(bW12.cell (p:=⟨wr.heap.size,2,none⟩) (show wr.heap.size<W1.heap.size by omega)).trans r2;clear hgrp hbel g1 g2 b2 bW bW12 hro hc;go_wp2_with fail;try rw [hW1]
   clear hck hck1 hck2 hW1;refine wp_region_held_drew (S:=fun w'=>w'.cell? ⟨wr.heap.size,0,none⟩=some (.int .i64 (R k))/\ w'.cell? ⟨wr.heap.size,1,none⟩=some (.int .i64 (F k))/\ w'.cell? ⟨wr.heap.size,2,none⟩=some (.int .i64 (T k))) (by kernel_rfl) ⟨r0,r1,r2⟩ (fun hHeld=> ?_);refine tZ 0 18 ?_;refine tZ 1 19 ?_;refine tZ 2 20 ?_;refine tZ 3 21 ?_;refine tZ 4 22 ?_;refine tZ 5 23 ?_;refine tZ 7 25 ?_;refine tZ 8 26 ?_;refine tZ 9 27 ?_;refine tZ 10 28 ?_;refine tZ 11 29 ?_;refine ready2 (i:=6) (j:=12) (d:=some 24) (d':=some 30) (by kernel_rfl) (by kernel_rfl) (by kernel_rfl) ?_ ?_
   ·intro o ho hod K hK;simp only [gZa,gZb,gZc,gZd] at ho;subst ho;go_simp;refine hK.out _ _ ⟨r0,r1,r2⟩ (fun hHeld=> ?_);clear hK K;try simp only [Act.put,sZa,sZb,sZc]
    refine cZ 12 ?_;intro K hK;go_simp;try rw [hW2]
    have BC:=And.intro c20 (And.intro c21 c22);refine hK.out _ _ ⟨BC.1,BC.2.1,BC.2.2⟩ (fun hHeld=> ?_);clear hK K;try simp only [Act.put,sZa,sZb,sZc]
    refine cZ 13 ?_;intro K hK;rw [if_pos (by rfl)];refine wp_app_at _ _ _ (by rfl) (w1.heap.size+1) 121 i0 _ 2 16 Tryz.underlying109 hi hz0 hz1 hz2 rfl (by decide) (G (R k)) (Lk R F T k (R k)).length _ (by rfl) HROW.out ⟨wr.heap.size+1,0,none⟩ 1 1 [.int .i64 (F k),.int .i64 (T k)] (by rfl) (by rfl) HNEW.out (by intro u hu;simp at hu;rcases hu with rfl|rfl<;>rfl) (by unfold maxLen;omega) (by omega) (by rw [hW2s];omega) ?_;intro v' w3 hown3 hgr3 hloc3;have BD:=keep3 hgr3 BC.1 BC.2.1 BC.2.2 hne;refine hK.out _ _ ⟨BD.1,BD.2.1,BD.2.2⟩ (fun hHeld=> ?_);clear hK K;try simp only [Act.put,sZa,sZb,sZc]
    refine cZ 14 ?_;intro K hK;rw [if_pos (by rfl)];refine wp_put_own _ _ _ _ _ (by rfl) 3 109 (int_keyed Tryz.underlying3) Tryz.underlying47 rawR w1.heap.size k D (by rfl) (HMAP.out.kept hgr3 hmne) (by unfold maxLen;omega) (.int .i64 (R k)) v' (kI (R k)) (by rfl) (by rfl) (keyOf_int_mk Tryz.underlying3 hwf) (.held v') [] (rawR_own hown3) ?_;intro w4 hown4 hgr4;have BE:=keep3 hgr4 BD.1 BD.2.1 BD.2.2 (by simp;omega);refine hK.out _ _ ⟨BE.1,BE.2.1,BE.2.2⟩ (fun hHeld=> ?_);clear hK K;try simp only [Act.put,sZa,sZb,sZc]
    refine wpAnyH_done (by kernel_rfl) ?_ _;have HG:=hid (HGRP.out.step (v':=v') HB2.out hown3 hgr3 hloc3 hown4 hgr4);have HZ:=hid (Nat.le_trans hgr3.size hgr4.size);have HB4:=hid (((HB.out.trans (HB2.out.mono (by omega))).grown hgr3 (by omega) (fun k hk=>by have:=(HROW.out.lt k hk).1;omega)).grown hgr4 (by have:=hgr3.size;omega) (fun k hk=>by injection hk with hk;omega));clear hHeld BC BD BE hown3 hgr3 hloc3 hown4 hgr4;go_wp2_with fail;go_roundw;case rel=>exact⟨k+1,_,_,hlt,by go_num,HG.out,HB4.out,by have:=HZ.out;omega⟩
    case measure=>simp [intOf];omega
   ·intro o ho hod K hK;simp only [gZa,gZb,gZc,gZd] at ho;subst ho;go_simp;try rw [hW2]
    have BC:=And.intro c20 (And.intro c21 c22);refine hK.out _ _ ⟨BC.1,BC.2.1,BC.2.2⟩ (fun hHeld=> ?_);clear hK K;try simp only [Act.put,sZa,sZb,sZc]
    refine cZ 6 ?_;intro K hK;go_simp;refine hK.out _ _ ⟨BC.1,BC.2.1,BC.2.2⟩ (fun hHeld=> ?_);clear hK K;try simp only [Act.put,sZa,sZb,sZc]
    refine cZ 13 ?_;intro K hK;rw [if_pos (by rfl)];refine wp_app_at _ _ _ (by rfl) (w1.heap.size+1) 121 i0 _ 2 16 Tryz.underlying109 hi hz0 hz1 hz2 rfl (by decide) (G (R k)) (Lk R F T k (R k)).length _ (by rfl) HROW.out ⟨wr.heap.size+1,0,none⟩ 1 1 [.int .i64 (F k),.int .i64 (T k)] (by rfl) (by rfl) HNEW.out (by intro u hu;simp at hu;rcases hu with rfl|rfl<;>rfl) (by unfold maxLen;omega) (by omega) (by rw [hW2s];omega) ?_;intro v' w3 hown3 hgr3 hloc3;have BD:=keep3 hgr3 BC.1 BC.2.1 BC.2.2 hne;refine hK.out _ _ ⟨BD.1,BD.2.1,BD.2.2⟩ (fun hHeld=> ?_);clear hK K;try simp only [Act.put,sZa,sZb,sZc]
    refine cZ 14 ?_;intro K hK;rw [if_pos (by rfl)];refine wp_put_own _ _ _ _ _ (by rfl) 3 109 (int_keyed Tryz.underlying3) Tryz.underlying47 rawR w1.heap.size k D (by rfl) (HMAP.out.kept hgr3 hmne) (by unfold maxLen;omega) (.int .i64 (R k)) v' (kI (R k)) (by rfl) (by rfl) (keyOf_int_mk Tryz.underlying3 hwf) (.held v') [] (rawR_own hown3) ?_;intro w4 hown4 hgr4;have BE:=keep3 hgr4 BD.1 BD.2.1 BD.2.2 (by simp;omega);refine hK.out _ _ ⟨BE.1,BE.2.1,BE.2.2⟩ (fun hHeld=> ?_);clear hK K;try simp only [Act.put,sZa,sZb,sZc]
    refine wpAnyH_done (by kernel_rfl) ?_ _;have HG:=hid (HGRP.out.step (v':=v') HB2.out hown3 hgr3 hloc3 hown4 hgr4);have HZ:=hid (Nat.le_trans hgr3.size hgr4.size);have HB4:=hid (((HB.out.trans (HB2.out.mono (by omega))).grown hgr3 (by omega) (fun k hk=>by have:=(HROW.out.lt k hk).1;omega)).grown hgr4 (by have:=hgr3.size;omega) (fun k hk=>by injection hk with hk;omega));clear hHeld BC BD BE hown3 hgr3 hloc3 hown4 hgr4;go_wp2_with fail;go_roundw;case rel=>exact⟨k+1,_,_,hlt,by go_num,HG.out,HB4.out,by have:=HZ.out;omega⟩
    case measure=>simp [intOf];omega
  ·obtain rfl:k=n:=by omega
   have HG:=hid hgrp;have HB:=hid hbel;clear hgrp hbel hc;go_wp2_with fail;go_ret2;exact⟨w1.heap.size,D,G,rfl,HG.out,by omega,HB.out⟩
end Go.Proofs.YtpfmeafmepgimaaGreat
namespace Go.Proofs.YtpfmeafmepgimaaGreat
open Go.ChangeShapes Go.WideShapes Go.ChangeAt Go.RowKit
theorem wpList_app_at {P:Program}{w:World}{ops:Array Oper}{rest:List Oper}{o:Oper}{a:Act}{Q:Exit ->Act ->World ->Prop}(hgd:o.guard=none)(s x:Operand)(t:TypeId)
  (ho:o.op=.call {callee:=.builtin .append,args:=#[s,x],argTypes:=#[t,t]})
  (base:Nat) (e:TypeId) (i:TypeInfo) (z:Value) (size bytes:Nat) (ht:P.underlying t=some (.slice e)) (hi:P.info? e=some i) (hz:i.zero=some z)
  (hsize:i.size=size) (hby:i.bytes=bytes) (hzs:z.cells.size=size) (hsz:0<size)
  (v:Value) (n:Nat) (xs:List Value) (hs:a.eval s=v) (hown:w.ownsRow base e size v n xs)
  (ad:Addr) (m c:Nat) (news:List Value) (hx:a.eval x=.slice (some ad) m c) (hl:news.length=m*size) (hnews:∀j u,news[j]? =some u ->w.cell? (ad.add j)=some u) (h1:∀u∈news,u.oneCell'=true)
  (h63:n+m<=maxLen) (hbytes:(n+m)*bytes<=140737488355328) (hbase:base<=w.heap.size)
  (h:∀v' w',w'.ownsRow base e size v' (n+m) (xs++news) ->w.grownBy w' v.ownBlock ->(v'.ownBlock=v.ownBlock \/v'.ownBlock=some w.heap.size) ->wpList P ops Q rest (a.put o.dst v') w'):wpList P ops Q (o::rest) a w:=
 wpList_plain hgd fun _ hK=>wp_app_at s x t ho base e i z size bytes ht hi hz hsize hby hzs hsz v n xs hs hown ad m c news hx hl hnews h1 h63 hbytes hbase fun v' w' h2 h3 h4=>hK _ _ (h v' w' h2 h3 h4)
structure Gr (w w':World)(b0 b:Value):Prop where
 g:w.grownBy w' b0.ownBlock
 l:b.ownBlock=b0.ownBlock \/∃k,b.ownBlock=some k/\ w.heap.size<=k
theorem Gr.refl (w:World)(b:Value):Gr w w b b:=⟨⟨rfl,rfl,rfl,Nat.le_refl _,fun _ _ _=>rfl⟩,.inl rfl⟩
theorem Gr.trans {w w1 w2:World}{b0 b1 b2:Value}(h1:Gr w w1 b0 b1)(h2:Gr w1 w2 b1 b2):Gr w w2 b0 b2:=by
 refine⟨h1.g.andThen h2.g (fun j hj=> ?_),?_⟩
 ·rcases h1.l with e|⟨k,e,hk⟩
  ·exact .inr (e ▸ hj)
  ·rw [e] at hj;injection hj with hj;exact .inl (by omega)
 ·rcases h2.l with e|⟨k,e,hk⟩
  ·rw [e];exact h1.l
  ·exact .inr ⟨k,e,Nat.le_trans h1.g.size hk⟩
theorem Gr.alloc {w w1:World}{b0 b:Value}(h:Gr w w1 b0 b)(o:Obj):Gr w (w1.alloc o) b0 b:=
 h.trans ⟨World.grownBy_alloc w1 o _,.inl rfl⟩
theorem Gr.app {w w1:World}{b b':Value}(h:w.grownBy w1 b.ownBlock)(hl:b'.ownBlock=b.ownBlock \/b'.ownBlock=some w.heap.size):Gr w w1 b b':=
 ⟨h,hl.imp id (fun e=>⟨_,e,Nat.le_refl _⟩)⟩
theorem Gr.below {w w1:World}{b b':Value}{B:Nat}(h:Gr w w1 b b')(hB:B<=w.heap.size)(hb:∀k,b.ownBlock=some k ->B<=k):Below B w w1:=
 (Below.refl B w).grown h.g hB hb
theorem Gr.of_below {w w1:World}{b:Value}(h:Below w.heap.size w w1):Gr w w1 b b:=
 ⟨⟨h.os,h.tape,h.output,h.size,fun k hk _=>h.block k hk⟩,.inl rfl⟩
def CurJ (w:World)(cb:Nat)(a:Option Addr)(n c:Nat)(x:Int):Prop:=w.cell? ⟨cb,0,none⟩=some (.slice a n c)/\ w.cell? ⟨cb,1,none⟩=some (.int .i64 x)/\ w.frozen? ⟨cb,1,none⟩=false
theorem CurJ.lt {w:World}{cb:Nat}{a:Option Addr}{n c:Nat}{x:Int}(h:CurJ w cb a n c x):cb<w.heap.size:=by
 rcases Nat.lt_or_ge cb w.heap.size with h1|h1
 ·exact h1
 ·have:=h.1;simp [World.cell?,Array.getElem?_eq_none h1] at this
theorem CurJ.below {w w':World}{B cb:Nat}{a:Option Addr}{n c:Nat}{x:Int}(h:CurJ w cb a n c x)(hb:Below B w w')(hB:cb<B):CurJ w' cb a n c x:=
 ⟨(hb.cell (p:=⟨cb,0,none⟩) hB).trans h.1,(hb.cell (p:=⟨cb,1,none⟩) hB).trans h.2.1,(hb.frozen (p:=⟨cb,1,none⟩) hB).trans h.2.2⟩
theorem CurJ.set {w:World}{cb:Nat}{a:Option Addr}{n c:Nat}{x:Int}(h:CurJ w cb a n c x)(y:Int):CurJ (w.setCell ⟨cb,1,none⟩ (.int .i64 y)) cb a n c y:=by
 obtain⟨h1,h2,h3⟩:=h;refine⟨?_,?_,?_⟩
 ·simp [World.cell?_setCell_other,h1]
 ·exact World.cell?_setCell_same _ _ _ h2
 ·rw [World.frozen?_setCell];exact h3
theorem grown_setJ {w w1:World}{cb i:Nat}(h:w.grownBy w1 none)(v:Value):w.grownBy (w1.setCell ⟨cb,i,none⟩ v) (some cb):=by
 refine⟨h.os,h.tape,h.output,?_,fun k hk hne=> ?_⟩
 ·have:=h.size;simpa [World.setCell] using this
 ·exact(Below.heap_setCell _ _ _ _ (fun e=>hne (by rw [e]))).trans (h.block k hk (by simp))
theorem grown_drewNJ (w:World)(n:Nat)(row:Option Nat):w.grownBy (w.drewN n) row:=⟨rfl,rfl,rfl,Nat.le_refl _,fun _ _ _=>rfl⟩
theorem grown_transJ {w w1 w2:World}{cb:Nat}(h1:w.grownBy w1 (some cb))(h2:w1.grownBy w2 (some cb)):w.grownBy w2 (some cb):=
 h1.andThen h2 (fun j hj=> .inr hj)
theorem grown_belowJ {w w1 w2:World}{cb:Nat}(h1:w.grownBy w1 (some cb))(h2:Below w1.heap.size w1 w2):w.grownBy w2 (some cb):=
 grown_transJ h1 ⟨h2.os,h2.tape,h2.output,h2.size,fun k hk _=>h2.block k hk⟩
def RdJ (w:World)(B rb:Nat)(f:Nat ->Int)(n x:Nat):Prop:=∃(a:Option Addr) (c:Nat),CurJ w rb a n c (x:Int)/\ Seg w a n f/\ Byt f/\ n<=1000/\ x<=n/\ (0<n ->∀y,a=some y ->y.block≠rb/\ y.block<B)/\ rb<B
theorem RdJ.below {w w':World}{B rb:Nat}{f:Nat ->Int}{n x:Nat}(h:RdJ w B rb f n x)(hb:Below B w w'):RdJ w' B rb f n x:=by
 obtain⟨a,c,hc,hs,hf,hn,hx,hne,hB⟩:=h;refine⟨a,c,hc.below hb hB,?_,hf,hn,hx,hne,hB⟩;rcases hs with hs|⟨b,off,e,hlt,hcell⟩
 ·exact .inl hs
 ·by_cases h0:0<n
  ·exact .inr ⟨b,off,e,Nat.lt_of_lt_of_le hlt hb.size,fun i hi=>(hb.cell (p:=⟨b,off+i,none⟩) (show b<B from(hne h0 _ e).2)).trans (hcell i hi)⟩
  ·exact .inl (by omega)
def rk (f:Nat ->Int)(n x:Nat):Nat:=if x<n then(f x).toNat else 0
def rx (n x:Nat):Nat:=if x<n then x+1 else x
theorem rk_lt {w:World}{B rb:Nat}{f:Nat ->Int}{n x:Nat}(h:RdJ w B rb f n x):rk f n x<256:=by
 obtain⟨a,c,hc,hs,hf,_⟩:=h;unfold rk;split
 ·have:=hf x;omega
 ·omega
theorem RdJ.lt {w:World}{B rb:Nat}{f:Nat ->Int}{n x:Nat}(h:RdJ w B rb f n x):rb<w.heap.size/\ rb<B:=by
 obtain⟨a,c,hc,_,_,_,_,_,hB⟩:=h;exact⟨hc.lt,hB⟩
theorem rdNextJ (B rb:Nat)(f:Nat ->Int)(n x:Nat)(w:World)(h:RdJ w B rb f n x):
  Calls Tryz.prog 24 #[.pointer (some ⟨rb,0,none⟩)] w fun e w'=>e=.returned (.int .i64 (rk f n x:Int))/\ RdJ w' B rb f n (rx n x)/\ w.grownBy w' (some rb):=by
 obtain⟨a,c,hcur,hs,hf,hn,hx,hne,hBr⟩:=h;have HC:=hid hcur;have HS:=hid hs;have HF:=hid hf;obtain⟨k0,k1,k2⟩:=hcur;by_cases hxn:x<n
 ·rcases hs with hs|⟨b,off,rfl,hb,hc⟩
  ·omega
  obtain⟨z,hz⟩:∃z:Nat,f x=(z:Int):=⟨(f x).toNat,by have:=(hf x).1;omega⟩;have hz8:z<256:=by have:=(hf x).2;omega
  have hcx:w.cell? ⟨b,off+x,none⟩=some (.int .u8 (z:Int)):=by rw [hc x hxn,hz]
  have hbr:b≠rb:=(hne (by omega) _ rfl).1;have hx0:(0:Int)<=(x:Int):=Int.natCast_nonneg _;have hx1:(x:Int)<(n:Int):=by omega
  have hwz:IntKind.i64.wrap (z:Int)=(z:Int):=wrapIn _ (by omega) (by omega);have HZ:=hid hz;have HKX:Hid (∀z:Nat,f x=(z:Int) ->rk f n x=z/\ rx n x=x+1):=hid (fun z e=>by unfold rk rx;rw [if_pos hxn,if_pos hxn,e];exact⟨by omega,rfl⟩);clear hz hc hf;go_enter Tryz.func24,Tryz.ntmps24;go_wp2_with fail;go_quiet (fail);go_wp2_with fail;go_quiet (fail);go_wp2_with fail;go_ret;have HKZ:=HKX.out z HZ.out;rw [HKZ.1,HKZ.2];refine⟨rfl,⟨_,c,?_,?_,HF.out,hn,hxn,hne,hBr⟩,?_⟩
  ·first|exact HC.out.set _|(simp;exact HC.out.set _)
  ·rcases HS.out with h0|⟨b1,o1,e1,hb1,hc1⟩
   ·exact .inl h0
   ·have e2:=e1;injection e1 with e1;injection e1 with e1 _ _;subst e1;exact .inr ⟨_,o1,e2,by simpa [World.setCell] using hb1,fun i hi=>by
     try simp only [World.drewN_drewN]
     rw [World.cell?_setCell_far _ _ _ _ (by simp;omega)];exact hc1 i hi⟩
  ·first|exact grown_setJ (grown_drewNJ _ _ _) _|(simp;exact grown_setJ (grown_drewNJ _ _ _) _)
 ·have hd:decide ((x:Int)<(n:Int))=false:=by simp;omega
  go_enter Tryz.func24,Tryz.ntmps24;go_wp2_with fail;go_quiet (fail);go_wp2_with fail;go_ret;have e:rk f n x=0/\ rx n x=x:=by unfold rk rx;rw [if_neg hxn,if_neg hxn];exact⟨rfl,rfl⟩
  rw [e.1,e.2];exact⟨rfl,⟨a,c,HC.out,HS.out,HF.out,hn,hx,hne,hBr⟩,grown_drewNJ _ _ _⟩
theorem rdOpenJ (a:Option Addr)(n c:Nat)(f:Nat ->Int)(w:World)(hnc:n<=c)(hn:n<=9223372036854775807)(h:Seg w a n f)(hf:Byt f):
  Calls Tryz.prog 12 #[.slice a n c] w fun e w'=>e=.returned (.pointer (some ⟨w.heap.size,0,none⟩))/\ RdJ w' (w.heap.size+1) w.heap.size f (min n 1000) 0/\ Below w.heap.size w w':=by
 have al:=fun(o:Obj)=>(Below.refl w.heap.size w).alloc (Nat.le_refl _) o;have HA:=hid al;have HH:=hid h;have HF:=hid hf;clear al;by_cases h1:n<=1000
 ·clear h hf;go_enter Tryz.func12,Tryz.ntmps12;go_wp2_with fail;go_ret;rw [Nat.min_eq_left h1];refine⟨rfl,⟨a,c,⟨by simp,by simp,by simp⟩,HH.out.below (HA.out _),HF.out,h1,by omega,fun h0 y hy=> ?_,by omega⟩,HA.out _⟩;rcases HH.out with h2|⟨b,off,e,hb,_⟩
  ·omega
  ·rw [hy] at e;injection e with e;rw [e];exact⟨Nat.ne_of_lt hb,Nat.lt_succ_of_lt hb⟩
 ·have h2:1000<n:=by omega
  rcases h with h|⟨b,off,rfl,hb,hc⟩
  ·omega
  clear hf hc;go_enter Tryz.func12,Tryz.ntmps12;go_wp2_with fail;go_ret;rw [Nat.min_eq_right (by omega)];refine⟨rfl,⟨some ⟨b,off,none⟩,c,⟨by simp,by simp,by simp⟩,?_,HF.out,by omega,by omega,fun h0 y hy=> ?_,by omega⟩,HA.out _⟩
  ·rcases (HH.out.below (HA.out _)) with h3|⟨b1,o1,e1,hb1,hc1⟩
   ·omega
   ·exact .inr ⟨b1,o1,e1,hb1,fun i hi=>hc1 i (by omega)⟩
  ·injection hy with hy;rw [<- hy];exact⟨Nat.ne_of_lt hb,Nat.lt_succ_of_lt hb⟩
def strFJ (f:Nat ->Int)(p L:Nat):ByteArray:=⟨((List.range L).map fun i=>UInt8.ofNat (f (p+i)).toNat).toArray⟩
theorem strF_convJ {w:World}{b off p L cap:Nat}{f:Nat ->Int}(hf:Byt f)(hc:∀i,i<L ->w.cell? ⟨b,off+p+i,none⟩=some (.int .u8 (f (p+i)))):
  (convert 22 9 (.slice (some ⟨b,off+p,none⟩) L cap)).run Tryz.prog w=.ok (.string (strFJ f p L)) w:=by
 have hl:((List.range L).map fun i=>UInt8.ofNat (f (p+i)).toNat).length=L:=by simp
 have:=run_convert_bytes_back (P:=Tryz.prog) w 22 9 5 ⟨b,off+p,none⟩ cap ((List.range L).map fun i=>UInt8.ofNat (f (p+i)).toNat) Tryz.underlying22 Tryz.underlying5 Tryz.underlying9 (fun j hj=>by
  have hj':j<L:=by simpa using hj
  have e:(Addr.add ⟨b,off+p,none⟩ j)=⟨b,off+p+j,none⟩:=by
   by_cases h0:j=0
   ·subst h0;simp [Addr.add]
   ·simp [Addr.add,h0]
  rw [e,hc j hj'];have:=hf (p+j);simp only [List.getElem_map,List.getElem_range,Option.some.injEq,Value.int.injEq,true_and];have h2:(UInt8.ofNat (f (p+j)).toNat).toNat=(f (p+j)).toNat%256:=by simp
  rw [h2];omega)
 rw [hl] at this;exact this
theorem strF_noneJ {w:World}(ad:Addr)(p cap:Nat)(f:Nat ->Int):(convert 22 9 (.slice (some ad) 0 cap)).run Tryz.prog w=.ok (.string (strFJ f p 0)) w:=
 run_convert_bytes_back (P:=Tryz.prog) w 22 9 5 ad cap [] Tryz.underlying22 Tryz.underlying5 Tryz.underlying9 (fun j hj=>by simp at hj)
def BysJ (w:World)(B:Nat)(v:Value)(zs:List Int):Prop:=Own w B v zs/\∀z∈zs,0<=z/\ z<256
theorem rowEJ (w:World)(B:Nat)(hB:B<=w.heap.size):Own (w.alloc (.cells #[] 5)) B (.slice (some ⟨w.heap.size,0,none⟩) 0 0) []:=by
 have:=World.ownsRow_lit (base:=B) (e:=5) (size:=1) w #[] 0 hB (by unfold maxLen;omega) rfl;simpa [Own] using this
def txJ (zs:List Int):ByteArray:=strFJ (fun i=>zs.getD i 0) 0 zs.length
theorem txJ_size (zs:List Int):(txJ zs).size=zs.length:=by simp [txJ,strFJ,ByteArray.size]
theorem strOwnJ {w:World}{B:Nat}{v:Value}{zs:List Int}(h:BysJ w B v zs):∀k,(convert 22 9 v).run Tryz.prog (w.drewN k)=.ok (.string (txJ zs)) (w.drewN k):=by
 obtain⟨ho,hby⟩:=h;by_cases hz:zs=[]
 ·subst hz;obtain⟨_,h2⟩:=ho;rcases h2 with ⟨rfl,_⟩|⟨g,cap,cur,rfl,_⟩
  ·intro k;rw [run_convert_bytes_string _ _ _ 5 none 0 0 Tryz.underlying22 Tryz.underlying5 Tryz.underlying9];rfl
  ·exact fun k=>strF_noneJ (w:=w.drewN k) ⟨g,0,none⟩ 0 cap (fun _=>0)
 ·obtain⟨g,cap,rfl,_,_,_,_,_,s⟩:=ho.shape hz;rcases s with h0|⟨b,off,e,hb,hc⟩
  ·exact absurd (List.length_eq_zero_iff.1 h0) hz
  ·injection e with e;injection e with e1 e2 _;subst e1 e2;intro k;have:=strF_convJ (w:=w.drewN k) (b:=g) (off:=0) (p:=0) (L:=zs.length) (cap:=cap) (f:=fun i=>zs.getD i 0) (bytesOf hby) (fun i hi=>by have:=hc i hi;simpa using this);simpa [txJ] using this
def rpt (s:ByteArray)(n:Nat):List Int:=(List.replicate n (strInts s)).flatten
theorem rpt_succ (s:ByteArray)(n:Nat):rpt s (n+1)=rpt s n++strInts s:=by simp [rpt,List.replicate_succ']
theorem rpt_len (s:ByteArray)(n:Nat):(rpt s n).length=n*s.size:=by simp [rpt,strInts_length]
theorem rpt_byte (s:ByteArray)(n:Nat):∀z∈rpt s n,0<=z/\ z<256:=by
 intro z hz;simp only [rpt,List.mem_flatten,List.mem_replicate] at hz;obtain⟨l,⟨_,rfl⟩,h⟩:=hz;exact strInts_byte s z h
theorem rdRepeatJ (s:ByteArray)(n:Nat)(w:World)(hs:s.size<=1)(hn:n<=1000):
  Calls Tryz.prog 55 #[.string s,.int .i64 (n:Int)] w fun e w'=>e=.returned (.string (txJ (rpt s n)))/\ Below w.heap.size w w':=by
 obtain⟨i0,hi,hz0,hz1,hz2⟩:=info_parts Tryz.infoByte;have HE:=hid (rowEJ w w.heap.size (Nat.le_refl _));have HB0:=hid ((Below.refl w.heap.size w).alloc (Nat.le_refl _) (.cells #[] 5));go_enter Tryz.func55,Tryz.ntmps55;go_wp2_with fail;go_loopw [5,6] (fun b i wr=>∃(j:Nat) (zs:List Int),j<=n/\ zs.length<=j/\ i=.int .i64 (j:Int)/\ Hid (Own wr w.heap.size b zs)/\ Hid (rpt s j=zs)/\ Hid (Below w.heap.size w wr)) (fun _ i _=>n - (intOf i).toNat);case atStart=>exact⟨0,[],Nat.zero_le _,Nat.zero_le _,rfl,HE,hid rfl,HB0⟩
 case round=>
  clear HE HB0;obtain⟨j,zs,hj,hzl,rfl,ho,hby,hb⟩:=hrel;have zg:=hb.out.size;by_cases hlt:j<n
  ·obtain⟨cap,w2,hrun,b2,z2,hcs⟩:=bytesOfStr s wr;have hd:w2.ownsRow w.heap.size 5 1 u5 zs.length (zs.map (Value.int .u8)):=ho.out.kept b2 (fun k hk=>(World.ownsRow.lt ho.out k hk).2);have HT:Hid (∀k,u5.ownBlock=some k ->w.heap.size<=k):=fun k hk=>(World.ownsRow.lt hd k hk).1;have HN:=hid hcs;have HO:=hid (Lib.strCells_oneCell s);have HLN:=hid (Lib.strCells_length s);have HB2:=hid (hb.out.trans (b2.mono zg));have zz:=b2.size;clear hcs b2 ho hb;go_wp2_with (at_builtin;refine wpList_append_own _ rfl _ _ 22 rfl w.heap.size 5 i0 (.int .u8 0) 1 1 Tryz.underlying22 hi hz0 hz1 hz2 rfl (by decide) _ _ _ rfl hd ⟨wr.heap.size,0,none⟩ s.size cap (Lib.strCells s) rfl (by rw [HLN.out];omega) HN.out HO.out ?c3 ?c4 ?c5 ?_);case c3=>unfold maxLen;omega
   case c4=>omega
   case c5=>omega
   ·intro v' w3 hown' hgr _;have R:Hid (Own w3 w.heap.size v' (zs++strInts s)):=by
     show Own _ _ _ _;unfold Own;rw [List.length_append,List.map_append,strInts_length,strInts_cells];exact hown'
    have RB:Hid (Below w.heap.size w w3):=HB2.out.grown hgr (by omega) HT.out;have HBy:Hid (rpt s (j+1)=zs++strInts s):=hid (by rw [rpt_succ,hby.out]);have hl2:(zs++strInts s).length<=j+1:=by rw [List.length_append,strInts_length];omega
    clear hown' hgr hd HN HO HLN hrun HT HB2;go_wp2_with fail;go_roundw;case rel=>exact⟨j+1,zs++strInts s,hlt,hl2,by go_num,R,HBy,RB⟩
    case measure=>simp [intOf];omega
  ·obtain rfl:j=n:=by omega
   have hcv0:=strOwnJ ⟨ho.out,by rw [<- hby.out];exact rpt_byte s j⟩ 0;rw [World.drewN_zero] at hcv0;obtain⟨t,ht⟩:∃t,txJ zs=t:=⟨_,rfl⟩;have HT:Hid (txJ (rpt s j)=t):=hid (by rw [hby.out];exact ht);rw [ht] at hcv0;clear ht hby;go_wp2_with fail;go_ret;exact⟨by rw [HT.out];rfl,hb.out⟩
theorem rdLeftJ (B rb:Nat)(f:Nat ->Int)(n x:Nat)(w:World)(h:RdJ w B rb f n x):
  Calls Tryz.prog 51 #[.pointer (some ⟨rb,0,none⟩)] w fun e w'=>e=.returned (.int .i64 ((n - x:Nat):Int))/\ RdJ w' B rb f n x/\ w.grownBy w' (some rb):=by
 have HR:=hid h;obtain⟨a,c,hcur,hs,hf,hn,hx,hne,hBr⟩:=h;obtain⟨k0,k1,k2⟩:=hcur;obtain⟨d,hd⟩:∃d:Nat,n - x=d:=⟨_,rfl⟩;have hw:IntKind.i64.wrap ((n:Int) - (x:Int))=(d:Int):=by rw [show (n:Int) - (x:Int)=(d:Int) from by omega];exact wrapIn _ (by omega) (by omega)
 rw [hd];clear hs hf hne hd;go_enter Tryz.func51,Tryz.ntmps51;go_wp2_with fail;try (go_quiet (fail);go_wp2_with fail)
 go_ret;first|exact⟨rfl,HR.out,grown_drewNJ _ _ _⟩|exact⟨rfl,HR.out,grown_drewNJ _ 0 _⟩
end Go.Proofs.YtpfmeafmepgimaaGreat
