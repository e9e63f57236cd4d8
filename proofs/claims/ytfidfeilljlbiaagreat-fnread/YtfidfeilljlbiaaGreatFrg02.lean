import Derived.Test.YtfidfeilljlbiaaGreatFrg01
import Derived.Maps.AppendAt
import Derived.Deep.QuietTactic
import Derived.BigQuiet
import Derived.Laws.IdiomStrings
import Derived.Test.YtfidfeilljlbiaaGreatRows
import Derived.WalkKit
import Derived.ProofKit
import Derived.Below
import Derived.Deep.AppendSrc
set_option linter.unusedVariables false
set_option linter.unusedSimpArgs false
set_option maxRecDepth 100000
set_option maxHeartbeats 40000000
namespace Go.Proofs.YtfidfeilljlbiaaGreat
open Go.ChangeShapes Go.WideShapes Go.ChangeAt Go.RowKit Go.Maps
theorem Tryz.infoSpan:(Tryz.prog.info? 142).map (fun i=>(i.zero,i.size,i.bytes))=some (some (.agg #[.int .i64 0,.int .i64 0]),2,16):=by kernel_rfl
theorem ready2 {P:Program}{ops:Array Oper}{Q:Exit ->Act ->World ->Prop}{md:Region.Mode}{S:World ->Prop}{i j:Nat}{d d':Option Tmp}{fuel:Nat}{listed:Array Bool}{a:Act}{w:World}
  (hd:ops[i]?.map (fun o=>o.dst)=some d) (hd':ops[j]?.map (fun o=>o.dst)=some d') (hr:Region.ready md ops listed=[i,j])
  (h:∀o,ops[i]? =some o ->o.dst=d ->∀K':Act ->World ->Prop,Shut (∀a w,S w ->(S w ->wpAnyH P md ops Q S fuel (listed.setIfInBounds i true) a w) ->K' a w) ->if Region.wanted o (yielded ops a.tmps)=true then Oper.wp P o a w K' Q else K' (a.put o.dst undef) w)
  (h':∀o,ops[j]? =some o ->o.dst=d' ->∀K':Act ->World ->Prop,Shut (∀a w,S w ->(S w ->wpAnyH P md ops Q S fuel (listed.setIfInBounds j true) a w) ->K' a w) ->if Region.wanted o (yielded ops a.tmps)=true then Oper.wp P o a w K' Q else K' (a.put o.dst undef) w):
  wpAnyH P md ops Q S (fuel+1) listed a w:=by
 obtain⟨o,ho,Hc⟩:=Option.map_eq_some_iff.1 hd;obtain⟨o',Hb,Ha⟩:=Option.map_eq_some_iff.1 hd';exact wpAnyH_ready hr (by simp) (AllReadyH.cons ho (h o ho Hc) (AllReadyH.cons Hb (h' o' Hb Ha) AllReadyH.nil))
theorem wp_app_at {P:Program}{o:Oper}{a:Act}{w:World}{K:Act ->World ->Prop}{Q:Exit ->Act ->World ->Prop}(s x:Operand)(t:TypeId)
  (ho:o.op=.call {callee:=.builtin .append,args:=#[s,x],argTypes:=#[t,t]})
  (base:Nat) (e:TypeId) (i:TypeInfo) (z:Value) (size bytes:Nat) (ht:P.underlying t=some (.slice e)) (hi:P.info? e=some i) (hz:i.zero=some z)
  (hsize:i.size=size) (hby:i.bytes=bytes) (hzs:z.cells.size=size) (hsz:0<size)
  (v:Value) (n:Nat) (xs:List Value) (hs:a.eval s=v) (hown:w.ownsRow base e size v n xs)
  (ad:Addr) (m c:Nat) (news:List Value) (hx:a.eval x=.slice (some ad) m c) (hl:news.length=m*size) (hnews:∀j u,news[j]? =some u ->w.cell? (ad.add j)=some u) (h1:∀u∈news,u.oneCell'=true)
  (h63:n+m<=maxLen) (hbytes:(n+m)*bytes<=140737488355328) (hbase:base<=w.heap.size)
  (h:∀v' w',w'.ownsRow base e size v' (n+m) (xs++news) ->w.grownBy w' v.ownBlock ->(v'.ownBlock=v.ownBlock \/v'.ownBlock=some w.heap.size) ->K (a.put o.dst v') w'):o.wp P a w K Q:=by
 obtain⟨v',w',hr,h2,h3,h4,h5⟩:=run_append_own_at (P:=P) w base t o.type e i z size bytes ht hi hz hsize hby hzs hsz v n xs hown ad m c news hl hnews h1 h63 hbytes hbase;unfold Oper.wp execOp;simp only [ho,resolve,invoke,builtin,Sem.run_bind,Sem.run_pure,Result.andThen_ok,List.map_toArray,List.map_cons,List.map_nil,hs,hx,hr];exact h v' w' h2 h3 h5
theorem wp_put_own {H:Type}{P:Program}(w:World){o:Oper}{a:Act}{K:Act ->World ->Prop}{Q:Exit ->Act ->World ->Prop}
  (m x v:Operand) (t:TypeId) (hop:o.op=Op.mapUpdate t m x v)
  (k e:TypeId) (Kd:Keyed P k) (ht:P.underlying t=some (.map k e)) (R:Value ->Option (DataW H×List MemPlace)) (b n:Nat) (D:DataW H)
  (hm:a.eval m=.map (some b)) (hown:w.ownsMap P k R b n D) (hn:n<maxLen) (key val:Value) (kl:Lit) (hx:a.eval x=key) (hv:a.eval v=val) (hkey:keyOf P k key=some kl)
  (d:DataW H) (ps:List MemPlace) (hval:R val=some (d,ps))
  (hK:∀w',w'.ownsMap P k R b (n+1) (D.put kl d) ->w.grownBy w' (some b) ->K (a.put o.dst undef) w'):o.wp P a w K Q:=by
 obtain⟨w',Ha,r1,r2⟩:=hown.update Kd ht hn hkey hval;unfold Oper.wp;simp [execOp,hop,hm,hx,hv,Ha,Result.andThen];exact hK _ r1 r2
theorem grp_made (w:World):GrpAt (w.alloc (.map #[] 0)) w.heap.size 0 (.map []) (fun _=> .slice none 0 0) (fun _=>[]):=
 ⟨World.ownsMap_made w _ _ _,fun r=>rfl,fun r=>rfl,fun r=>World.ownsRow_nil _ _ _ _,fun r r' g h _=>by cases h⟩
theorem keep3 {w w':World}{row:Option Nat}{B:Nat}{x y z:Value}(hg:w.grownBy w' row)(h0:w.cell? ⟨B,0,none⟩=some x)(h1:w.cell? ⟨B,1,none⟩=some y)(h2:w.cell? ⟨B,2,none⟩=some z)(hne:some B≠row):
  w'.cell? ⟨B,0,none⟩=some x/\ w'.cell? ⟨B,1,none⟩=some y/\ w'.cell? ⟨B,2,none⟩=some z:=⟨hg.cell h0 hne,hg.cell h1 hne,hg.cell h2 hne⟩
theorem openC (a:Option Addr)(n c:Nat)(R F T:Nat ->Int)(w:World)(hn:n<=1048576)(h:RSeg w a n R F T)(hok:ctxB R F T n=true):
  Calls Tryz.prog 83 #[.agg #[.slice a n c]] w fun e w'=>∃bm D G,e=.returned (.tuple #[.map (some bm),.bool true])/\ GrpAt w' bm n D G (Lk R F T n)/\ w.heap.size<=bm/\ Below w.heap.size w w':=by
 have Ge:=@run_makeMap Tryz.prog;have Hr:=(ctxB_iff.1 hok);obtain⟨i0,hi,H4,H5,H6⟩:=info_parts Tryz.infoSpan;have B0:Below w.heap.size w (w.alloc (.cells #[.slice a n c] 26)):=zO _ _;have Hz:=hid Hr;clear Hr;go_enter Tryz.func83,Tryz.ntmps83;go_wp2_with fail;refine(implOk a n c R F T _ hn (h.below B0)).mono ?_;rintro e w1 ⟨rfl,b1⟩;rw [hok];have H7:w1.cell? ⟨w.heap.size,0,none⟩=some (.slice a n c):=by rw [(bcell b1).1 _ _ (by simp)];simp
 have B1:=keepS B0 b1;have z1:w.heap.size<w1.heap.size:=by have:=b1.size;simp at this;omega
 clear b1 B0 hok;rcases h with h|⟨b,Hy,rfl,hb,hc⟩
 ·subst h;have Hu:=hid B1;clear B1;go_wp2_with fail;refine wp_loop_rounds 1 ?_;rw [rounds_succ];go_wp2_with fail;go_ret2;exact⟨w1.heap.size,_,_,rfl,grp_made w1,by omega,(Hu.out.alloc (by omega) _)⟩
 have Hu:=hid B1;clear B1;go_wp2_with fail;go_loopw [14] (fun i wr=>∃(k:Nat) (D:DataW Value) (G:Int ->Value),k<=n/\ i=.int .i64 k/\ GrpAt wr w1.heap.size k D G (Lk R F T k)/\ Below w.heap.size w wr/\ w1.heap.size<wr.heap.size) (fun i _=>n - (intOf i).toNat);case atStart=>exact⟨0,_,_,Nat.zero_le _,rfl,grp_made w1,Hu.out.alloc (by omega) _,by simp⟩
 case round=>
  obtain⟨k,D,G,hk,rfl,Hd,Hg,Gf⟩:=hrel;by_cases Hk:k<n
  ·have H8:wr.cell? ⟨b,Hy+k*3,none⟩=some (.int .i64 (R k)):=(Hg.cell (p:=⟨b,_,none⟩) hb).trans (hc k Hk).1;have Hw:wr.cell? ⟨b,Hy+k*3+1,none⟩=some (.int .i64 (F k)):=(Hg.cell (p:=⟨b,_,none⟩) hb).trans (hc k Hk).2.1;have Hx:wr.cell? ⟨b,Hy+k*3+2,none⟩=some (.int .i64 (T k)):=(Hg.cell (p:=⟨b,_,none⟩) hb).trans (hc k Hk).2.2;have Ga:=runOk_iff.1 ((Hz.out.1 k Hk).1);have Ht:(Lit.int .i64 (R k)).wf=true:=wfI (by omega) (by omega);have Gd:=Hz.out.2;have hL:=Lk_len R F T k (R k);obtain⟨W1,Hj⟩:∃W1,wr.alloc (.cells #[.int .i64 (R k),.int .i64 (F k),.int .i64 (T k)] 96)=W1:=⟨_,rfl⟩;have zW:W1.heap.size=wr.heap.size+1:=by rw [<- Hj];simp
   have bW:Below wr.heap.size wr W1:=by rw [<- Hj];exact zO _ _
   have r0:W1.cell? ⟨wr.heap.size,0,none⟩=some (.int .i64 (R k)):=by rw [<- Hj];simp
   have r1:W1.cell? ⟨wr.heap.size,1,none⟩=some (.int .i64 (F k)):=by rw [<- Hj];simp
   have r2:W1.cell? ⟨wr.heap.size,2,none⟩=some (.int .i64 (T k)):=by rw [<- Hj];simp
   have Hq:some w1.heap.size≠(G (R k)).ownBlock:=fun e=>by have:=((Hd.rows (R k)).lt _ e.symm).1;omega
   have H3:some wr.heap.size≠(G (R k)).ownBlock:=fun e=>by have:=((Hd.rows (R k)).lt _ e.symm).2;omega
   have g1:=Hd.below (bW.drew);have Gb:=g1.look (R k) Ht;obtain⟨W2,Ho⟩:∃W2,W1.alloc (.cells #[.int .i64 (F k),.int .i64 (T k)] 142)=W2:=⟨_,rfl⟩;have Hh:Below W1.heap.size W1 W2:=by rw [<- Ho];exact zO _ _
   have Hp:W2.drew.heap.size=wr.heap.size+2:=by show W2.heap.size=_;rw [<- Ho];simp;omega
   have b2:Below wr.heap.size wr W2.drew:=(bW.trans (Hh.mono (by omega))).drew;have g2:=Hd.below b2;have Gc:=g2.look (R k) Ht;have Hn:Hid (∀j u,[Value.int .i64 (F k),.int .i64 (T k)][j]? =some u ->W2.drew.cell? ((⟨wr.heap.size+1,0,none⟩:Addr).add j)=some u):=by rw [<- Ho,<- zW];exact cell_two_new _ _ _ _
   have Hi:=hid (g2.rows (R k));have Hm:=hid g2.own;have Hl:=hid Hd;have Hs:=hid b2;have HB:=hid Hg;have H0:=(Hh.cell (p:=⟨wr.heap.size,0,none⟩) (show wr.heap.size<W1.heap.size by omega)).trans r0;have H1:=(Hh.cell (p:=⟨wr.heap.size,1,none⟩) (show wr.heap.size<W1.heap.size by omega)).trans r1;have H2:=(Hh.cell (p:=⟨wr.heap.size,2,none⟩) (show wr.heap.size<W1.heap.size by omega)).trans r2;clear Hd Hg g1 g2 b2 bW Hh Ga hc;go_wp2_with fail;try rw [Hj]
   clear H8 Hw Hx Hj;refine zR (S:=fun w'=>w'.cell? ⟨wr.heap.size,0,none⟩=some (.int .i64 (R k))/\ w'.cell? ⟨wr.heap.size,1,none⟩=some (.int .i64 (F k))/\ w'.cell? ⟨wr.heap.size,2,none⟩=some (.int .i64 (T k))) ⟨r0,r1,r2⟩ (fun qh=> ?_);refine tZ 0 18 ?_;refine tZ 1 19 ?_;refine tZ 2 20 ?_;refine tZ 3 21 ?_;refine tZ 4 22 ?_;refine tZ 5 23 ?_;refine tZ 7 25 ?_;refine tZ 8 26 ?_;refine tZ 9 27 ?_;refine tZ 10 28 ?_;refine tZ 11 29 ?_;refine ready2 (i:=6) (j:=12) (d:=some 24) (d':=some 30) (by kernel_rfl) (by kernel_rfl) (by kernel_rfl) ?_ ?_
   ·intro o ho H9 K hK;simp only [gZa,gZb,gZc,gZd] at ho;subst ho;go_simp;refine hK.out _ _ ⟨r0,r1,r2⟩ (fun qh=> ?_);clear hK K;try simp only [zP]
    refine cZ 12 ?_;intro K hK;go_simp;try rw [Ho]
    have BC:=And.intro H0 (And.intro H1 H2);refine hK.out _ _ ⟨BC.1,BC.2.1,BC.2.2⟩ (fun qh=> ?_);clear hK K;try simp only [zP]
    refine cZ 13 ?_;intro K hK;rw [if_pos (by rfl)];refine wp_app_at _ _ _ (by rfl) (w1.heap.size+1) 142 i0 _ 2 16 Tryz.underlying139 hi H4 H5 H6 rfl (by decide) (G (R k)) (Lk R F T k (R k)).length _ (by rfl) Hi.out ⟨wr.heap.size+1,0,none⟩ 1 1 [.int .i64 (F k),.int .i64 (T k)] (by rfl) (by rfl) Hn.out (by intro u hu;simp at hu;rcases hu with rfl|rfl<;>rfl) (by unfold maxLen;omega) (by omega) (by rw [Hp];omega) ?_;intro v' w3 Hc Ha He;have BD:=keep3 Ha BC.1 BC.2.1 BC.2.2 H3;refine hK.out _ _ ⟨BD.1,BD.2.1,BD.2.2⟩ (fun qh=> ?_);clear hK K;try simp only [zP]
    refine cZ 14 ?_;intro K hK;rw [if_pos (by rfl)];refine wp_put_own _ _ _ _ _ (by rfl) 3 139 (int_keyed Tryz.underlying3) Tryz.underlying67 rawR w1.heap.size k D (by rfl) (Hm.out.kept Ha Hq) (by unfold maxLen;omega) (.int .i64 (R k)) v' (kI (R k)) (by rfl) (by rfl) (keyOf_int_mk Tryz.underlying3 Ht) (.held v') [] (rawR_own Hc) ?_;intro w4 Hf Hb;have BE:=keep3 Hb BD.1 BD.2.1 BD.2.2 (by simp;omega);refine hK.out _ _ ⟨BE.1,BE.2.1,BE.2.2⟩ (fun qh=> ?_);clear hK K;try simp only [zP]
    refine zD ?_;have HG:=hid (Hl.out.step (v':=v') Hs.out Hc Ha He Hf Hb);have HZ:=hid (Nat.le_trans Ha.size Hb.size);have Hv:=hid (((HB.out.trans (Hs.out.mono (by omega))).grown Ha (by omega) (fun k hk=>by have:=(Hi.out.lt k hk).1;omega)).grown Hb (by have:=Ha.size;omega) (fun k hk=>by injection hk with hk;omega));clear qh BC BD BE Hc Ha He Hf Hb;go_wp2_with fail;go_roundw;case rel=>exact⟨k+1,_,_,Hk,by go_num,HG.out,Hv.out,by have:=HZ.out;omega⟩
    case measure=>simp [intOf];omega
   ·intro o ho H9 K hK;simp only [gZa,gZb,gZc,gZd] at ho;subst ho;go_simp;try rw [Ho]
    have BC:=And.intro H0 (And.intro H1 H2);refine hK.out _ _ ⟨BC.1,BC.2.1,BC.2.2⟩ (fun qh=> ?_);clear hK K;try simp only [zP]
    refine cZ 6 ?_;intro K hK;go_simp;refine hK.out _ _ ⟨BC.1,BC.2.1,BC.2.2⟩ (fun qh=> ?_);clear hK K;try simp only [zP]
    refine cZ 13 ?_;intro K hK;rw [if_pos (by rfl)];refine wp_app_at _ _ _ (by rfl) (w1.heap.size+1) 142 i0 _ 2 16 Tryz.underlying139 hi H4 H5 H6 rfl (by decide) (G (R k)) (Lk R F T k (R k)).length _ (by rfl) Hi.out ⟨wr.heap.size+1,0,none⟩ 1 1 [.int .i64 (F k),.int .i64 (T k)] (by rfl) (by rfl) Hn.out (by intro u hu;simp at hu;rcases hu with rfl|rfl<;>rfl) (by unfold maxLen;omega) (by omega) (by rw [Hp];omega) ?_;intro v' w3 Hc Ha He;have BD:=keep3 Ha BC.1 BC.2.1 BC.2.2 H3;refine hK.out _ _ ⟨BD.1,BD.2.1,BD.2.2⟩ (fun qh=> ?_);clear hK K;try simp only [zP]
    refine cZ 14 ?_;intro K hK;rw [if_pos (by rfl)];refine wp_put_own _ _ _ _ _ (by rfl) 3 139 (int_keyed Tryz.underlying3) Tryz.underlying67 rawR w1.heap.size k D (by rfl) (Hm.out.kept Ha Hq) (by unfold maxLen;omega) (.int .i64 (R k)) v' (kI (R k)) (by rfl) (by rfl) (keyOf_int_mk Tryz.underlying3 Ht) (.held v') [] (rawR_own Hc) ?_;intro w4 Hf Hb;have BE:=keep3 Hb BD.1 BD.2.1 BD.2.2 (by simp;omega);refine hK.out _ _ ⟨BE.1,BE.2.1,BE.2.2⟩ (fun qh=> ?_);clear hK K;try simp only [zP]
    refine zD ?_;have HG:=hid (Hl.out.step (v':=v') Hs.out Hc Ha He Hf Hb);have HZ:=hid (Nat.le_trans Ha.size Hb.size);have Hv:=hid (((HB.out.trans (Hs.out.mono (by omega))).grown Ha (by omega) (fun k hk=>by have:=(Hi.out.lt k hk).1;omega)).grown Hb (by have:=Ha.size;omega) (fun k hk=>by injection hk with hk;omega));clear qh BC BD BE Hc Ha He Hf Hb;go_wp2_with fail;go_roundw;case rel=>exact⟨k+1,_,_,Hk,by go_num,HG.out,Hv.out,by have:=HZ.out;omega⟩
    case measure=>simp [intOf];omega
  ·obtain rfl:k=n:=by omega
   have HG:=hid Hd;have HB:=hid Hg;clear Hd Hg hc;go_wp2_with fail;go_ret2;exact⟨w1.heap.size,D,G,rfl,HG.out,by omega,HB.out⟩
theorem wpList_app_at {P:Program}{w:World}{ops:Array Oper}{rest:List Oper}{o:Oper}{a:Act}{Q:Exit ->Act ->World ->Prop}(hgd:o.guard=none)(s x:Operand)(t:TypeId)
  (ho:o.op=.call {callee:=.builtin .append,args:=#[s,x],argTypes:=#[t,t]})
  (base:Nat) (e:TypeId) (i:TypeInfo) (z:Value) (size bytes:Nat) (ht:P.underlying t=some (.slice e)) (hi:P.info? e=some i) (hz:i.zero=some z)
  (hsize:i.size=size) (hby:i.bytes=bytes) (hzs:z.cells.size=size) (hsz:0<size)
  (v:Value) (n:Nat) (xs:List Value) (hs:a.eval s=v) (hown:w.ownsRow base e size v n xs)
  (ad:Addr) (m c:Nat) (news:List Value) (hx:a.eval x=.slice (some ad) m c) (hl:news.length=m*size) (hnews:∀j u,news[j]? =some u ->w.cell? (ad.add j)=some u) (h1:∀u∈news,u.oneCell'=true)
  (h63:n+m<=maxLen) (hbytes:(n+m)*bytes<=140737488355328) (hbase:base<=w.heap.size)
  (h:∀v' w',w'.ownsRow base e size v' (n+m) (xs++news) ->w.grownBy w' v.ownBlock ->(v'.ownBlock=v.ownBlock \/v'.ownBlock=some w.heap.size) ->wpList P ops Q rest (a.put o.dst v') w'):wpList P ops Q (o::rest) a w:=
 wpList_plain hgd fun _ hK=>wp_app_at s x t ho base e i z size bytes ht hi hz hsize hby hzs hsz v n xs hs hown ad m c news hx hl hnews h1 h63 hbytes hbase fun v' w' h2 h3 h4=>hK _ _ (h v' w' h2 h3 h4)
structure Gr (w w':World)(b0 b:Value):Prop where
 g:w.grownBy w' b0.ownBlock
 l:b.ownBlock=b0.ownBlock \/∃k,b.ownBlock=some k/\ w.heap.size<=k
theorem Gr.refl (w:World)(b:Value):Gr w w b b:=⟨⟨rfl,rfl,rfl,Nat.le_refl _,fun _ _ _=>rfl⟩,.inl rfl⟩
theorem Gr.trans {w w1 w2:World}{b0 b1 b2:Value}(h1:Gr w w1 b0 b1)(h2:Gr w1 w2 b1 b2):Gr w w2 b0 b2:=by
 refine⟨h1.g.andThen h2.g (fun j hj=> ?_),?_⟩
 ·rcases h1.l with e|⟨k,e,hk⟩
  ·exact .inr (e ▸ hj)
  ·rw [e] at hj;injection hj with hj;exact .inl (by omega)
 ·rcases h2.l with e|⟨k,e,hk⟩
  ·rw [e];exact h1.l
  ·exact .inr ⟨k,e,Nat.le_trans h1.g.size hk⟩
theorem Gr.alloc {w w1:World}{b0 b:Value}(h:Gr w w1 b0 b)(o:Obj):Gr w (w1.alloc o) b0 b:=
 h.trans ⟨World.grownBy_alloc w1 o _,.inl rfl⟩
theorem Gr.app {w w1:World}{b b':Value}(h:w.grownBy w1 b.ownBlock)(hl:b'.ownBlock=b.ownBlock \/b'.ownBlock=some w.heap.size):Gr w w1 b b':=
 ⟨h,hl.imp id (fun e=>⟨_,e,Nat.le_refl _⟩)⟩
theorem Gr.below {w w1:World}{b b':Value}{B:Nat}(h:Gr w w1 b b')(hB:B<=w.heap.size)(hb:∀k,b.ownBlock=some k ->B<=k):Below B w w1:=
 (Below.refl B w).grown h.g hB hb
theorem Gr.of_below {w w1:World}{b:Value}(h:Below w.heap.size w w1):Gr w w1 b b:=
 ⟨⟨h.os,h.tape,h.output,h.size,fun k hk _=>h.block k hk⟩,.inl rfl⟩
def CurJ (w:World)(cb:Nat)(a:Option Addr)(n c:Nat)(x:Int):Prop:=w.cell? ⟨cb,0,none⟩=some (.slice a n c)/\ w.cell? ⟨cb,1,none⟩=some (.int .i64 x)/\ w.frozen? ⟨cb,1,none⟩=false
theorem CurJ.lt {w:World}{cb:Nat}{a:Option Addr}{n c:Nat}{x:Int}(h:CurJ w cb a n c x):cb<w.heap.size:=by
 rcases Nat.lt_or_ge cb w.heap.size with h1|h1
 ·exact h1
 ·have:=h.1;simp [World.cell?,Array.getElem?_eq_none h1] at this
theorem CurJ.below {w w':World}{B cb:Nat}{a:Option Addr}{n c:Nat}{x:Int}(h:CurJ w cb a n c x)(hb:Below B w w')(hB:cb<B):CurJ w' cb a n c x:=
 ⟨(hb.cell (p:=⟨cb,0,none⟩) hB).trans h.1,(hb.cell (p:=⟨cb,1,none⟩) hB).trans h.2.1,(hb.frozen (p:=⟨cb,1,none⟩) hB).trans h.2.2⟩
theorem CurJ.set {w:World}{cb:Nat}{a:Option Addr}{n c:Nat}{x:Int}(h:CurJ w cb a n c x)(y:Int):CurJ (w.setCell ⟨cb,1,none⟩ (.int .i64 y)) cb a n c y:=by
 obtain⟨h1,h2,h3⟩:=h;refine⟨?_,?_,?_⟩
 ·simp [World.cell?_setCell_other,h1]
 ·exact World.cell?_setCell_same _ _ _ h2
 ·rw [World.frozen?_setCell];exact h3
theorem grown_setJ {w w1:World}{cb i:Nat}(h:w.grownBy w1 none)(v:Value):w.grownBy (w1.setCell ⟨cb,i,none⟩ v) (some cb):=by
 refine⟨h.os,h.tape,h.output,?_,fun k hk hne=> ?_⟩
 ·have:=h.size;simpa [World.setCell] using this
 ·exact(zH _ _ _ _ (fun e=>hne (by rw [e]))).trans (h.block k hk (by simp))
theorem grown_drewNJ (w:World)(n:Nat)(row:Option Nat):w.grownBy (w.drewN n) row:=⟨rfl,rfl,rfl,Nat.le_refl _,fun _ _ _=>rfl⟩
theorem grown_transJ {w w1 w2:World}{cb:Nat}(h1:w.grownBy w1 (some cb))(h2:w1.grownBy w2 (some cb)):w.grownBy w2 (some cb):=
 h1.andThen h2 (fun j hj=> .inr hj)
theorem grown_belowJ {w w1 w2:World}{cb:Nat}(h1:w.grownBy w1 (some cb))(h2:Below w1.heap.size w1 w2):w.grownBy w2 (some cb):=
 grown_transJ h1 ⟨h2.os,h2.tape,h2.output,h2.size,fun k hk _=>h2.block k hk⟩
def RdJ (w:World)(B rb:Nat)(f:Nat ->Int)(n x:Nat):Prop:=∃(a:Option Addr) (c:Nat),CurJ w rb a n c (x:Int)/\ Seg w a n f/\ Byt f/\ n<=1000/\ x<=n/\ (0<n ->∀y,a=some y ->y.block≠rb/\ y.block<B)/\ rb<B
theorem RdJ.below {w w':World}{B rb:Nat}{f:Nat ->Int}{n x:Nat}(h:RdJ w B rb f n x)(hb:Below B w w'):RdJ w' B rb f n x:=by
 obtain⟨a,c,hc,hs,hf,hn,hx,Hb,hB⟩:=h;refine⟨a,c,hc.below hb hB,?_,hf,hn,hx,Hb,hB⟩;rcases hs with hs|⟨b,Hc,e,Hd,Ha⟩
 ·exact .inl hs
 ·by_cases h0:0<n
  ·exact .inr ⟨b,Hc,e,Nat.lt_of_lt_of_le Hd hb.size,fun i hi=>(hb.cell (p:=⟨b,Hc+i,none⟩) (show b<B from(Hb h0 _ e).2)).trans (Ha i hi)⟩
  ·exact .inl (by omega)
def rk (f:Nat ->Int)(n x:Nat):Nat:=if x<n then(f x).toNat else 0
def rx (n x:Nat):Nat:=if x<n then x+1 else x
theorem rk_lt {w:World}{B rb:Nat}{f:Nat ->Int}{n x:Nat}(h:RdJ w B rb f n x):rk f n x<256:=by
 obtain⟨a,c,hc,hs,hf,_⟩:=h;unfold rk;split
 ·have:=hf x;omega
 ·omega
theorem RdJ.lt {w:World}{B rb:Nat}{f:Nat ->Int}{n x:Nat}(h:RdJ w B rb f n x):rb<w.heap.size/\ rb<B:=by
 obtain⟨a,c,hc,_,_,_,_,_,hB⟩:=h;exact⟨hc.lt,hB⟩
theorem rdNextJ (B rb:Nat)(f:Nat ->Int)(n x:Nat)(w:World)(h:RdJ w B rb f n x):
  Calls Tryz.prog 17 #[.pointer (some ⟨rb,0,none⟩)] w fun e w'=>e=.returned (.int .i64 (rk f n x:Int))/\ RdJ w' B rb f n (rx n x)/\ w.grownBy w' (some rb):=by
 obtain⟨a,c,Hb,hs,hf,hn,hx,Hc,He⟩:=h;have HC:=hid Hb;have HS:=hid hs;have HF:=hid hf;obtain⟨k0,k1,k2⟩:=Hb;by_cases Ha:x<n
 ·rcases hs with hs|⟨b,Hi,rfl,hb,hc⟩
  ·omega
  obtain⟨z,hz⟩:∃z:Nat,f x=(z:Int):=⟨(f x).toNat,by have:=(hf x).1;omega⟩;have Ho:z<256:=by have:=(hf x).2;omega
  have Hk:w.cell? ⟨b,Hi+x,none⟩=some (.int .u8 (z:Int)):=by rw [hc x Ha,hz]
  have Hj:b≠rb:=(Hc (by omega) _ rfl).1;have Hm:(0:Int)<=(x:Int):=Int.natCast_nonneg _;have Hn:(x:Int)<(n:Int):=by omega
  have Hl:IntKind.i64.wrap (z:Int)=(z:Int):=wrapIn _ (by omega) (by omega);have HZ:=hid hz;have Hf:Hid (∀z:Nat,f x=(z:Int) ->rk f n x=z/\ rx n x=x+1):=hid (fun z e=>by unfold rk rx;rw [if_pos Ha,if_pos Ha,e];exact⟨by omega,rfl⟩);clear hz hc hf;go_enter Tryz.func17,Tryz.ntmps17;go_wp2_with fail;go_quiet (fail);go_wp2_with fail;go_quiet (fail);go_wp2_with fail;go_ret;have Hd:=Hf.out z HZ.out;rw [Hd.1,Hd.2];refine⟨rfl,⟨_,c,?_,?_,HF.out,hn,Ha,Hc,He⟩,?_⟩
  ·first|exact HC.out.set _|(simp;exact HC.out.set _)
  ·rcases HS.out with h0|⟨b1,o1,e1,Hg,Hh⟩
   ·exact .inl h0
   ·have e2:=e1;injection e1 with e1;injection e1 with e1 _ _;subst e1;exact .inr ⟨_,o1,e2,by simpa [World.setCell] using Hg,fun i hi=>by
     try simp only [World.drewN_drewN]
     rw [World.cell?_setCell_far _ _ _ _ (by simp;omega)];exact Hh i hi⟩
  ·first|exact grown_setJ (grown_drewNJ _ _ _) _|(simp;exact grown_setJ (grown_drewNJ _ _ _) _)
 ·have hd:decide ((x:Int)<(n:Int))=false:=by simp;omega
  go_enter Tryz.func17,Tryz.ntmps17;go_wp2_with fail;go_quiet (fail);go_wp2_with fail;go_ret;have e:rk f n x=0/\ rx n x=x:=by unfold rk rx;rw [if_neg Ha,if_neg Ha];exact⟨rfl,rfl⟩
  rw [e.1,e.2];exact⟨rfl,⟨a,c,HC.out,HS.out,HF.out,hn,hx,Hc,He⟩,grown_drewNJ _ _ _⟩
theorem rdOpenJ (a:Option Addr)(n c:Nat)(f:Nat ->Int)(w:World)(hnc:n<=c)(hn:n<=9223372036854775807)(h:Seg w a n f)(hf:Byt f):
  Calls Tryz.prog 16 #[.slice a n c] w fun e w'=>e=.returned (.pointer (some ⟨w.heap.size,0,none⟩))/\ RdJ w' (w.heap.size+1) w.heap.size f (min n 1000) 0/\ Below w.heap.size w w':=by
 have al:=fun(o:Obj)=>zO w o;have HA:=hid al;have HH:=hid h;have HF:=hid hf;clear al;by_cases h1:n<=1000
 ·clear h hf;go_enter Tryz.func16,Tryz.ntmps16;go_wp2_with fail;go_ret;rw [Nat.min_eq_left h1];refine⟨rfl,⟨a,c,⟨by simp,by simp,by simp⟩,HH.out.below (HA.out _),HF.out,h1,by omega,fun h0 y hy=> ?_,by omega⟩,HA.out _⟩;rcases HH.out with h2|⟨b,Ha,e,hb,_⟩
  ·omega
  ·rw [hy] at e;injection e with e;rw [e];exact⟨Nat.ne_of_lt hb,Nat.lt_succ_of_lt hb⟩
 ·have h2:1000<n:=by omega
  rcases h with h|⟨b,Ha,rfl,hb,hc⟩
  ·omega
  clear hf hc;go_enter Tryz.func16,Tryz.ntmps16;go_wp2_with fail;go_ret;rw [Nat.min_eq_right (by omega)];refine⟨rfl,⟨some ⟨b,Ha,none⟩,c,⟨by simp,by simp,by simp⟩,?_,HF.out,by omega,by omega,fun h0 y hy=> ?_,by omega⟩,HA.out _⟩
  ·rcases (HH.out.below (HA.out _)) with h3|⟨b1,o1,e1,Hb,Hc⟩
   ·omega
   ·exact .inr ⟨b1,o1,e1,Hb,fun i hi=>Hc i (by omega)⟩
  ·injection hy with hy;rw [<- hy];exact⟨Nat.ne_of_lt hb,Nat.lt_succ_of_lt hb⟩
def strFJ (f:Nat ->Int)(p L:Nat):ByteArray:=⟨((List.range L).map fun i=>UInt8.ofNat (f (p+i)).toNat).toArray⟩
theorem strF_convJ {w:World}{b off p L cap:Nat}{f:Nat ->Int}(hf:Byt f)(hc:∀i,i<L ->w.cell? ⟨b,off+p+i,none⟩=some (.int .u8 (f (p+i)))):
  (convert 22 9 (.slice (some ⟨b,off+p,none⟩) L cap)).run Tryz.prog w=.ok (.string (strFJ f p L)) w:=by
 have hl:((List.range L).map fun i=>UInt8.ofNat (f (p+i)).toNat).length=L:=by simp
 have:=run_convert_bytes_back (P:=Tryz.prog) w 22 9 5 ⟨b,off+p,none⟩ cap ((List.range L).map fun i=>UInt8.ofNat (f (p+i)).toNat) Tryz.underlying22 Tryz.underlying5 Tryz.underlying9 (fun j hj=>by
  have Ha:j<L:=by simpa using hj
  have e:(Addr.add ⟨b,off+p,none⟩ j)=⟨b,off+p+j,none⟩:=by
   by_cases h0:j=0
   ·subst h0;simp [Addr.add]
   ·simp [Addr.add,h0]
  rw [e,hc j Ha];have:=hf (p+j);simp only [List.getElem_map,List.getElem_range,Option.some.injEq,Value.int.injEq,true_and];have h2:(UInt8.ofNat (f (p+j)).toNat).toNat=(f (p+j)).toNat%256:=by simp
  rw [h2];omega)
 rw [hl] at this;exact this
theorem strF_noneJ {w:World}(ad:Addr)(p cap:Nat)(f:Nat ->Int):(convert 22 9 (.slice (some ad) 0 cap)).run Tryz.prog w=.ok (.string (strFJ f p 0)) w:=
 run_convert_bytes_back (P:=Tryz.prog) w 22 9 5 ad cap [] Tryz.underlying22 Tryz.underlying5 Tryz.underlying9 (fun j hj=>by simp at hj)
def BysJ (w:World)(B:Nat)(v:Value)(zs:List Int):Prop:=Own w B v zs/\∀z∈zs,0<=z/\ z<256
theorem rowEJ (w:World)(B:Nat)(hB:B<=w.heap.size):Own (w.alloc (.cells #[] 5)) B (.slice (some ⟨w.heap.size,0,none⟩) 0 0) []:=by
 have:=World.ownsRow_lit (base:=B) (e:=5) (size:=1) w #[] 0 hB (by unfold maxLen;omega) rfl;simpa [Own] using this
def txJ (zs:List Int):ByteArray:=strFJ (fun i=>zs.getD i 0) 0 zs.length
theorem txJ_size (zs:List Int):(txJ zs).size=zs.length:=by simp [txJ,strFJ,ByteArray.size]
theorem strOwnJ {w:World}{B:Nat}{v:Value}{zs:List Int}(h:BysJ w B v zs):∀k,(convert 22 9 v).run Tryz.prog (w.drewN k)=.ok (.string (txJ zs)) (w.drewN k):=by
 obtain⟨ho,Ha⟩:=h;by_cases hz:zs=[]
 ·subst hz;obtain⟨_,h2⟩:=ho;rcases h2 with ⟨rfl,_⟩|⟨g,cap,Hb,rfl,_⟩
  ·intro k;rw [run_convert_bytes_string _ _ _ 5 none 0 0 Tryz.underlying22 Tryz.underlying5 Tryz.underlying9];rfl
  ·exact fun k=>strF_noneJ (w:=w.drewN k) ⟨g,0,none⟩ 0 cap (fun _=>0)
 ·obtain⟨g,cap,rfl,_,_,_,_,_,s⟩:=ho.shape hz;rcases s with h0|⟨b,off,e,hb,hc⟩
  ·exact absurd (List.length_eq_zero_iff.1 h0) hz
  ·injection e with e;injection e with e1 e2 _;subst e1 e2;intro k;have:=strF_convJ (w:=w.drewN k) (b:=g) (off:=0) (p:=0) (L:=zs.length) (cap:=cap) (f:=fun i=>zs.getD i 0) (bytesOf Ha) (fun i hi=>by have:=hc i hi;simpa using this);simpa [txJ] using this
def rpt (s:ByteArray)(n:Nat):List Int:=(List.replicate n (strInts s)).flatten
theorem rpt_succ (s:ByteArray)(n:Nat):rpt s (n+1)=rpt s n++strInts s:=by simp [rpt,List.replicate_succ']
theorem rpt_len (s:ByteArray)(n:Nat):(rpt s n).length=n*s.size:=by simp [rpt,strInts_length]
theorem rpt_byte (s:ByteArray)(n:Nat):∀z∈rpt s n,0<=z/\ z<256:=by
 intro z hz;simp only [rpt,List.mem_flatten,List.mem_replicate] at hz;obtain⟨l,⟨_,rfl⟩,h⟩:=hz;exact strInts_byte s z h
theorem rdRepeatJ (s:ByteArray)(n:Nat)(w:World)(hs:s.size<=1)(hn:n<=1000):
  Calls Tryz.prog 42 #[.string s,.int .i64 (n:Int)] w fun e w'=>e=.returned (.string (txJ (rpt s n)))/\ Below w.heap.size w w':=by
 obtain⟨i0,hi,Hn,Ho,Hp⟩:=info_parts Tryz.infoByte;have HE:=hid (rowEJ w w.heap.size zL);have He:=hid (zO w (.cells #[] 5));go_enter Tryz.func42,Tryz.ntmps42;go_wp2_with fail;go_loopw [5,6] (fun b i wr=>∃(j:Nat) (zs:List Int),j<=n/\ zs.length<=j/\ i=.int .i64 (j:Int)/\ Hid (Own wr w.heap.size b zs)/\ Hid (rpt s j=zs)/\ Hid (Below w.heap.size w wr)) (fun _ i _=>n - (intOf i).toNat);case atStart=>exact⟨0,[],Nat.zero_le _,Nat.zero_le _,rfl,HE,hid rfl,He⟩
 case round=>
  clear HE He;obtain⟨j,zs,hj,Hq,rfl,ho,Hc,hb⟩:=hrel;have zg:=hb.out.size;by_cases Hm:j<n
  ·obtain⟨Hk,w2,Hd,b2,z2,Hh⟩:=bytesOfStr s wr;have hd:w2.ownsRow w.heap.size 5 1 u5 zs.length (zs.map (Value.int .u8)):=ho.out.kept b2 (fun k hk=>(World.ownsRow.lt ho.out k hk).2);have HT:Hid (∀k,u5.ownBlock=some k ->w.heap.size<=k):=fun k hk=>(World.ownsRow.lt hd k hk).1;have HN:=hid Hh;have HO:=hid (Lib.strCells_oneCell s);have Hg:=hid (Lib.strCells_length s);have Hf:=hid (hb.out.trans (b2.mono zg));have zz:=b2.size;clear Hh b2 ho hb;go_wp2_with (at_builtin;refine wpList_append_own _ rfl _ _ 22 rfl w.heap.size 5 i0 (.int .u8 0) 1 1 Tryz.underlying22 hi Hn Ho Hp rfl (by decide) _ _ _ rfl hd ⟨wr.heap.size,0,none⟩ s.size Hk (Lib.strCells s) rfl (by rw [Hg.out];omega) HN.out HO.out ?c3 ?c4 ?c5 ?_);case c3=>unfold maxLen;omega
   case c4=>omega
   case c5=>omega
   ·intro v' w3 Ha Hi _;have R:Hid (Own w3 w.heap.size v' (zs++strInts s)):=by
     show Own _ _ _ _;unfold Own;rw [List.length_append,List.map_append,strInts_length,strInts_cells];exact Ha
    have RB:Hid (Below w.heap.size w w3):=Hf.out.grown Hi (by omega) HT.out;have Hj:Hid (rpt s (j+1)=zs++strInts s):=hid (by rw [rpt_succ,Hc.out]);have Hl:(zs++strInts s).length<=j+1:=by rw [List.length_append,strInts_length];omega
    clear Ha Hi hd HN HO Hg Hd HT Hf;go_wp2_with fail;go_roundw;case rel=>exact⟨j+1,zs++strInts s,Hm,Hl,by go_num,R,Hj,RB⟩
    case measure=>simp [intOf];omega
  ·obtain rfl:j=n:=by omega
   have Hb:=strOwnJ ⟨ho.out,by rw [<- Hc.out];exact rpt_byte s j⟩ 0;rw [World.drewN_zero] at Hb;obtain⟨t,ht⟩:∃t,txJ zs=t:=⟨_,rfl⟩;have HT:Hid (txJ (rpt s j)=t):=hid (by rw [Hc.out];exact ht);rw [ht] at Hb;clear ht Hc;go_wp2_with fail;go_ret;exact⟨by rw [HT.out];rfl,hb.out⟩
theorem rdLeftJ (B rb:Nat)(f:Nat ->Int)(n x:Nat)(w:World)(h:RdJ w B rb f n x):
  Calls Tryz.prog 68 #[.pointer (some ⟨rb,0,none⟩)] w fun e w'=>e=.returned (.int .i64 ((n - x:Nat):Int))/\ RdJ w' B rb f n x/\ w.grownBy w' (some rb):=by
 have HR:=hid h;obtain⟨a,c,Ha,hs,hf,hn,hx,Hb,Hc⟩:=h;obtain⟨k0,k1,k2⟩:=Ha;obtain⟨d,hd⟩:∃d:Nat,n - x=d:=⟨_,rfl⟩;have hw:IntKind.i64.wrap ((n:Int) - (x:Int))=(d:Int):=by rw [show (n:Int) - (x:Int)=(d:Int) from by omega];exact wrapIn _ (by omega) (by omega)
 rw [hd];clear hs hf Hb hd;go_enter Tryz.func68,Tryz.ntmps68;go_wp2_with fail;try (go_quiet (fail);go_wp2_with fail)
 go_ret;first|exact⟨rfl,HR.out,grown_drewNJ _ _ _⟩|exact⟨rfl,HR.out,grown_drewNJ _ 0 _⟩
def OffV (w:World)(B size:Nat)(v:Value)(n:Nat)(xs:List Value):Prop:=
 ∃g off c,v=.slice (some ⟨g,off,none⟩) n c/\ B<=g/\ g<w.heap.size/\ n<=c/\ c<=maxLen/\ xs.length=n*size/\ (∀j,j<n*size ->w.cell? ⟨g,off+j,none⟩=xs[j]?)/\ (∀j,j<c*size ->(w.cell? ⟨g,off+j,none⟩).isSome=true)/\ (∀j,j<c*size ->w.frozen? ⟨g,off+j,none⟩=false)
theorem off_of_row {w:World}{B:Nat}{e:TypeId}{size:Nat}{v:Value}{n:Nat}{xs:List Value}(h:w.ownsRow B e size v n xs)(hv:v≠.slice none 0 0):OffV w B size v n xs:=by
 rcases h.2 with ⟨e,_⟩|⟨g,Ha,Hb,e,Hc,hg,Hf,Hd,He,Hg⟩
 ·exact absurd e hv
 ·subst e;refine⟨g,0,Ha,rfl,Hc,(h.lt g rfl).2,Hf,Hd,h.1,fun j hj=> ?_,fun j hj=> ?_,fun j hj=> ?_⟩
  ·rw [Nat.zero_add];exact h.cellAt j hj
  ·rw [Nat.zero_add];have:j<Hb.size:=by rw [He];exact hj
   simp [World.cell?,hg,this]
  ·rw [Nat.zero_add];exact h.frozenAt j
theorem OffV.below {w w':World}{B C size:Nat}{v:Value}{n:Nat}{xs:List Value}(h:OffV w B size v n xs)(hb:Below C w w')(hC:w.heap.size<=C):OffV w' B size v n xs:=by
 obtain⟨g,Ha,c,e,hB,hg,hn,hc,hl,h1,h2,h3⟩:=h;have Hb:g<C:=Nat.lt_of_lt_of_le hg hC;exact⟨g,Ha,c,e,hB,Nat.lt_of_lt_of_le hg hb.size,hn,hc,hl,fun j hj=>(hb.cell (p:=⟨g,Ha+j,none⟩) Hb).trans (h1 j hj),fun j hj=>by rw [hb.cell (p:=⟨g,Ha+j,none⟩) Hb];exact h2 j hj,fun j hj=>(hb.frozen (p:=⟨g,Ha+j,none⟩) Hb).trans (h3 j hj)⟩
theorem OffV.gr {w w':World}{B size:Nat}{v:Value}{n:Nat}{xs:List Value}{row:Option Nat}(h:OffV w B size v n xs)(hg:w.grownBy w' row)(hne:v.ownBlock≠row):OffV w' B size v n xs:=by
 obtain⟨g,Ha,c,rfl,hB,Hb,hn,hc,hl,h1,h2,h3⟩:=h;have e:w'.heap[g]? =w.heap[g]? :=hg.block g Hb hne;exact⟨g,Ha,c,rfl,hB,Nat.lt_of_lt_of_le Hb hg.size,hn,hc,hl,fun j hj=>(World.cell?_of_block e).trans (h1 j hj),fun j hj=>by rw [World.cell?_of_block (a:=⟨g,Ha+j,none⟩) e];exact h2 j hj,fun j hj=>(World.frozen?_of_block (a:=⟨g,Ha+j,none⟩) e).trans (h3 j hj)⟩
theorem OffV.weak {w:World}{B B' size:Nat}{v:Value}{n:Nat}{xs:List Value}(h:OffV w B size v n xs)(hB:B'<=B):OffV w B' size v n xs:=by
 obtain⟨g,Ha,c,e,h0,r⟩:=h;exact⟨g,Ha,c,e,Nat.le_trans hB h0,r⟩
theorem OffV.lt {w:World}{B size:Nat}{v:Value}{n:Nat}{xs:List Value}(h:OffV w B size v n xs):∃g,v.ownBlock=some g/\ B<=g/\ g<w.heap.size:=by
 obtain⟨g,Ha,c,rfl,h0,h1,_⟩:=h;exact⟨g,rfl,h0,h1⟩
theorem grown_setCells (b:Nat):∀(vs:List Value) (o:Nat) (w:World),w.grownBy (w.setCells b o vs) (some b)
 | [],o,w=>⟨rfl,rfl,rfl,Nat.le_refl _,fun _ _ _=>rfl⟩
 | v::r,o,w=>by
  have ih:=grown_setCells b r (o+1) (w.setCell ⟨b,o,none⟩ v);have hs:(w.setCell ⟨b,o,none⟩ v).heap.size=w.heap.size:=by simp [World.setCell]
  exact⟨ih.os,ih.tape,ih.output,by have:=ih.size;rw [hs] at this;exact this,fun k hk hne=>(ih.block k (by rw [hs];exact hk) hne).trans (Below.heap_setCell _ _ _ _ (fun e=>hne (by rw [e])))⟩
theorem run_app_off {P:Program}(w:World)(B:Nat)(t ty e:TypeId)(i:TypeInfo)(z:Value)(size bytes:Nat)(ht:P.underlying t=some (.slice e))(hi:P.info? e=some i)(hz:i.zero=some z)
  (hsize:i.size=size) (hby:i.bytes=bytes) (hzs:z.cells.size=size) (v:Value) (n:Nat) (xs:List Value) (hown:OffV w B size v n xs)
  (a:Addr) (m c:Nat) (news:List Value) (hl:news.length=m*size) (hnews:∀j u,news[j]? =some u ->w.cell? (a.add j)=some u) (h1:∀u∈news,u.oneCell'=true)
  (h63:n+m<=maxLen) (hbytes:(n+m)*bytes<=140737488355328) (hbase:B<=w.heap.size):
  ∃v' w',(Builtin.append_ #[t,t] ty #[v,.slice (some a) m c]).run P w=.ok v' w'/\ OffV w' B size v' (n+m) (xs++news)/\ w.grownBy w' v.ownBlock/\ (v'.ownBlock=v.ownBlock \/v'.ownBlock=some w.heap.size):=by
 subst hsize;subst hby;obtain⟨g,Ha,Hb,rfl,hB,hg,Hq,Hn,Hi,k1,k2,k3⟩:=hown;have Hg:Src P i.size t (.slice (some a) m c) m news w:=Src.ofSlice w ht a m c news hl hnews h1;have Hd:(xs++news).length=(n+m)*i.size:=by rw [List.length_append,Hi,hl,Nat.add_mul]
 have Hr:(n+m)*i.size=n*i.size+m*i.size:=Nat.add_mul _ _ _;by_cases Hc:n+m<=Hb
 ·have Hm:(n+m)*i.size<=Hb*i.size:=Nat.mul_le_mul_right _ Hc;have q1:∀j,j<news.length ->(w.cell? ⟨g,Ha+n*i.size+j,none⟩).isSome=true:=fun j hj=>by rw [Nat.add_assoc];exact k2 _ (by omega)
  have hr:=run_append_room_src (P:=P) (w:=w) t t ty e i ht hi g Ha n Hb (.slice (some a) m c) m news Hg Hc q1 (fun j hj=>by rw [Nat.add_assoc];exact k3 _ (by omega));have Hk:=World.cell?_setCells_in g news (Ha+n*i.size) w q1;refine⟨_,_,hr,⟨g,Ha,Hb,rfl,hB,?_,Hc,Hn,Hd,fun j hj=> ?_,fun j hj=> ?_,fun j hj=> ?_⟩,grown_setCells g news _ w,.inl rfl⟩
  ·exact Nat.lt_of_lt_of_le hg (grown_setCells g news _ w).size
  ·by_cases Hl:j<n*i.size
   ·rw [World.cell?_setCells_out g news _ w _ (fun _ _=> .inl (by show Ha+j<Ha+n*i.size;omega)),k1 j Hl,List.getElem?_append_left (by omega)]
   ·have:=Hk (j - n*i.size) (by omega);rw [show Ha+n*i.size+(j - n*i.size)=Ha+j by omega] at this;rw [this,List.getElem?_append_right (by omega),Hi,List.getElem?_eq_getElem (by omega)]
  ·by_cases Hl:n*i.size<=j/\ j<n*i.size+news.length
   ·have:=Hk (j - n*i.size) (by omega);rw [show Ha+n*i.size+(j - n*i.size)=Ha+j by omega] at this;rw [this];rfl
   ·rw [World.cell?_setCells_out g news _ w _ (fun _ _=>by show Ha+j<Ha+n*i.size \/Ha+n*i.size+news.length<=Ha+j;omega)];exact k2 j hj
  ·rw [World.frozen?_setCells];exact k3 j hj
 ·have Hj:(Builtin.firstCells i.size n (.slice (some ⟨g,Ha,none⟩) n Hb)).run P w.drew=.ok xs.toArray w.drew:=run_firstCells_some (P:=P) w.drew i.size n ⟨g,Ha,none⟩ n Hb xs Hi (fun j u hu=>by
   have hj:j<xs.length:=(List.getElem?_eq_some_iff.1 hu).1;have:=k1 j (by omega);rw [hu] at this;have e2:(⟨g,Ha,none⟩:Addr).add j=⟨g,Ha+j,none⟩:=by
    by_cases h0:j=0
    ·subst h0;simp [Addr.add]
    ·simp [Addr.add,h0]
   rw [e2];exact this)
  have hr:=run_append_grow_src (P:=P) (w:=w) t t ty e i z ht hi hz (some ⟨g,Ha,none⟩) n Hb xs Hj (.slice (some a) m c) m news Hg (by omega) (by unfold maxLen at h63;omega) (growslice_fits (by omega) hbytes);have Hh:=grownCap_ge w (n+m) Hb e;have Hf:grownCap w (n+m) Hb e<=maxLen:=grownCap_le_maxLen w (n+m) Hb e h63;obtain⟨C,hC⟩:∃C,grownCap w (n+m) Hb e=C:=⟨_,rfl⟩;rw [hC] at hr Hh Hf;have Hp:(n+m)*i.size<=C*i.size:=Nat.mul_le_mul_right _ Hh;have Ho:((xs++news).toArray++Builtin.zeroCells z.cells (C - (n+m))).size=C*i.size:=by
   simp only [Array.size_append,List.size_toArray,size_zeroCells,hzs];rw [Hd,<- Nat.add_mul];congr 1;omega
  have He:∀j,(w.drew.alloc (.cells ((xs++news).toArray++Builtin.zeroCells z.cells (C - (n+m))) e)).cell? ⟨w.heap.size,j,none⟩=((xs++news).toArray++Builtin.zeroCells z.cells (C - (n+m)))[j]? :=fun j=>by
   have:=heap_alloc_new w.drew (.cells ((xs++news).toArray++Builtin.zeroCells z.cells (C - (n+m))) e);rw [show (w.drew).heap.size=w.heap.size from rfl] at this;unfold World.cell?;dsimp only;rw [this];rfl
  refine⟨_,_,hr,⟨w.heap.size,0,C,rfl,hbase,by simp,Hh,Hf,Hd,fun j hj=> ?_,fun j hj=> ?_,fun j hj=> ?_⟩,⟨rfl,rfl,rfl,by simp,fun k hk _=>heap_alloc_old w.drew _ hk⟩,.inr rfl⟩
  ·rw [Nat.zero_add,He,Array.getElem?_append_left (by rw [List.size_toArray,Hd];exact hj)];simp
  ·rw [Nat.zero_add,He,Array.getElem?_eq_getElem (by rw [Ho];exact hj)];rfl
  ·rw [Nat.zero_add];have:=heap_alloc_new w.drew (.cells ((xs++news).toArray++Builtin.zeroCells z.cells (C - (n+m))) e);rw [show (w.drew).heap.size=w.heap.size from rfl] at this;unfold World.frozen?;dsimp only;rw [this];show (decide (0<=j) && decide (j<0))=false;simp
theorem wp_app_off {P:Program}{o:Oper}{a:Act}{w:World}{K:Act ->World ->Prop}{Q:Exit ->Act ->World ->Prop}(s x:Operand)(t:TypeId)
  (ho:o.op=.call {callee:=.builtin .append,args:=#[s,x],argTypes:=#[t,t]})
  (base:Nat) (e:TypeId) (i:TypeInfo) (z:Value) (size bytes:Nat) (ht:P.underlying t=some (.slice e)) (hi:P.info? e=some i) (hz:i.zero=some z)
  (hsize:i.size=size) (hby:i.bytes=bytes) (hzs:z.cells.size=size)
  (v:Value) (n:Nat) (xs:List Value) (hs:a.eval s=v) (hown:OffV w base size v n xs)
  (ad:Addr) (m c:Nat) (news:List Value) (hx:a.eval x=.slice (some ad) m c) (hl:news.length=m*size) (hnews:∀j u,news[j]? =some u ->w.cell? (ad.add j)=some u) (h1:∀u∈news,u.oneCell'=true)
  (h63:n+m<=maxLen) (hbytes:(n+m)*bytes<=140737488355328) (hbase:base<=w.heap.size)
  (h:∀v' w',OffV w' base size v' (n+m) (xs++news) ->w.grownBy w' v.ownBlock ->(v'.ownBlock=v.ownBlock \/v'.ownBlock=some w.heap.size) ->K (a.put o.dst v') w'):o.wp P a w K Q:=by
 obtain⟨v',w',hr,h2,h3,h4⟩:=run_app_off (P:=P) w base t o.type e i z size bytes ht hi hz hsize hby hzs v n xs hown ad m c news hl hnews h1 h63 hbytes hbase;unfold Oper.wp execOp;simp only [ho,resolve,invoke,builtin,Sem.run_bind,Sem.run_pure,Result.andThen_ok,List.map_toArray,List.map_cons,List.map_nil,hs,hx,hr];exact h v' w' h2 h3 h4
theorem wpList_app_off {P:Program}{w:World}{ops:Array Oper}{rest:List Oper}{o:Oper}{a:Act}{Q:Exit ->Act ->World ->Prop}(hgd:o.guard=none)(s x:Operand)(t:TypeId)
  (ho:o.op=.call {callee:=.builtin .append,args:=#[s,x],argTypes:=#[t,t]})
  (base:Nat) (e:TypeId) (i:TypeInfo) (z:Value) (size bytes:Nat) (ht:P.underlying t=some (.slice e)) (hi:P.info? e=some i) (hz:i.zero=some z)
  (hsize:i.size=size) (hby:i.bytes=bytes) (hzs:z.cells.size=size)
  (v:Value) (n:Nat) (xs:List Value) (hs:a.eval s=v) (hown:OffV w base size v n xs)
  (ad:Addr) (m c:Nat) (news:List Value) (hx:a.eval x=.slice (some ad) m c) (hl:news.length=m*size) (hnews:∀j u,news[j]? =some u ->w.cell? (ad.add j)=some u) (h1:∀u∈news,u.oneCell'=true)
  (h63:n+m<=maxLen) (hbytes:(n+m)*bytes<=140737488355328) (hbase:base<=w.heap.size)
  (h:∀v' w',OffV w' base size v' (n+m) (xs++news) ->w.grownBy w' v.ownBlock ->(v'.ownBlock=v.ownBlock \/v'.ownBlock=some w.heap.size) ->wpList P ops Q rest (a.put o.dst v') w'):wpList P ops Q (o::rest) a w:=
 wpList_plain hgd fun _ hK=>wp_app_off s x t ho base e i z size bytes ht hi hz hsize hby hzs v n xs hs hown ad m c news hx hl hnews h1 h63 hbytes hbase fun v' w' h2 h3 h4=>hK _ _ (h v' w' h2 h3 h4)
end Go.Proofs.YtfidfeilljlbiaaGreat
