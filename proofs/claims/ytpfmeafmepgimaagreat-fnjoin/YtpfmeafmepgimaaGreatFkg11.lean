import Derived.Test.YtpfmeafmepgimaaGreatFkg09
import Derived.Test.YtpfmeafmepgimaaGreatFkg10
import Derived.Deep.QuietTactic
import Derived.BigQuiet
set_option linter.unusedVariables false
set_option linter.unusedSimpArgs false
set_option maxRecDepth 100000
set_option maxHeartbeats 40000000
namespace Go.Proofs.YtpfmeafmepgimaaGreat
open Go.ChangeShapes Go.WideShapes Go.ChangeAt Go.RowKit Go.Maps Go.Sort
theorem GrpAt.size_le {w:World}{bm n:Nat}{D:DataW Value}{G:Int ->Value}{L:Int ->List (Int×Int)}(h:GrpAt w bm n D G L):Maps.size D<=n:=h.own.size_le
def unL (R F T:Nat ->Int)(n:Nat)(R' F' T':Nat ->Int)(n':Nat):List Rn:=unF (flat R F T n) (flat R' F' T' n')
theorem ins_len (l:List Rn)(r:Rn):(ins l r).length<=l.length+1:=by
 have:=stK_len l r l.length (Nat.le_refl _);rw [stK_all] at this;unfold ins;simp only [List.length_append,List.length_singleton];omega
theorem unF_len:∀(b l:List Rn),(unF l b).length<=l.length+b.length
 | [],l=>by simp [unF]
 | q::b,l=>by
  have h1:=unF_len b (ins l q);have h2:=ins_len l q;show (unF (ins l q) b).length<=_;simp only [List.length_cons];omega
theorem unF_snoc (l b:List Rn)(q:Rn):unF l (b++[q])=ins (unF l b) q:=by simp [unF]
theorem flatR_len (R F T:Nat ->Int)(n:Nat):(flat R F T n).length=n:=by simp [flat]
theorem flat_at (R F T:Nat ->Int)(n i:Nat)(h:i<n):gR (flat R F T n) i=(R i,F i,T i):=by simp [gR,flat,List.getD,h]
theorem fCells_at (l:List Rn)(j:Nat)(u:Value)(h:(fCells l)[j]? =some u):j/3<l.length/\ ((j%3=0/\ u=.int .i64 (gR l (j/3)).1) \/(j%3=1/\ u=.int .i64 (gR l (j/3)).2.1) \/(j%3=2/\ u=.int .i64 (gR l (j/3)).2.2)):=by
 induction l generalizing j with
 | nil=>simp [fCells] at h
 | cons a l ih=>
  have e:fCells (a::l)=.int .i64 a.1::.int .i64 a.2.1::.int .i64 a.2.2::fCells l:=by simp [fCells]
  rw [e] at h;match j,h with
  | 0,h=>simp at h;simp [gR,h]
  | 1,h=>simp at h;simp [gR,h]
  | 2,h=>simp at h;simp [gR,h]
  | j+3,h=>
   have h:(fCells l)[j]? =some u:=by simpa using h
   obtain⟨h1,h2⟩:=ih j h;have e1:(j+3)/3=j/3+1:=by omega
   have e2:(j+3)%3=j%3:=by omega
   rw [e1,e2];refine⟨by simp;omega,?_⟩;simpa [gR] using h2
theorem rseg_cells {w:World}{g off n:Nat}{R F T:Nat ->Int}(h:RSeg w (some ⟨g,off,none⟩) n R F T):∀j u,(fCells (flat R F T n))[j]? =some u ->w.cell? ((⟨g,off,none⟩:Addr).add j)=some u:=by
 intro j u hj;obtain⟨h1,h2⟩:=fCells_at _ j u hj;rw [flatR_len] at h1;obtain⟨b,o,e,hb,c0,c1,c2⟩:=h.at h1;injection e with e;injection e with e3 e4;subst e3 e4;rw [flat_at _ _ _ _ _ h1] at h2;have ej:j=j/3*3+j%3:=by omega
 rcases h2 with ⟨q,rfl⟩|⟨q,rfl⟩|⟨q,rfl⟩
 ·rw [Addr.add_lit,show off+j=off+j/3*3 from by omega];exact c0
 ·rw [Addr.add_lit,show off+j=off+j/3*3+1 from by omega];exact c1
 ·rw [Addr.add_lit,show off+j=off+j/3*3+2 from by omega];exact c2
theorem FR.weak {w:World}{B C:Nat}{v:Value}{l:List Rn}(h:FR w B v l)(hc:C<=B):FR w C v l:=by
 obtain⟨q1,q2⟩:=h;refine⟨q1,q2.imp id ?_⟩;rintro⟨g,cap,cur,e,hg,r⟩;exact⟨g,cap,cur,e,by omega,r⟩
theorem run_app_nil {P:Program}(w:World)(t ty e:TypeId)(i:TypeInfo)(ht:P.underlying t=some (.slice e))(hi:P.info? e=some i)(base:Option Addr)(n cap c':Nat)(h:n<=cap):
  (Builtin.append_ #[t,t] ty #[.slice base n cap,.slice none 0 c']).run P w=.ok (.slice base n cap) w:=by
 cases base<;>simp [Builtin.append_,run_underlying ht,sizeOf,typeInfo,hi,Builtin.lenOf,Builtin.firstCells,storeCells,loadCells,loadCellsFrom,h,Result.andThen]
theorem wpList_app_nl {P:Program}{w:World}{ops:Array Oper}{rest:List Oper}{o:Oper}{a:Act}{Q:Exit ->Act ->World ->Prop}(hgd:o.guard=none)(s x:Operand)(t:TypeId)
  (ho:o.op=.call {callee:=.builtin .append,args:=#[s,x],argTypes:=#[t,t]})
  (base:Nat) (e:TypeId) (i:TypeInfo) (z:Value) (size bytes:Nat) (ht:P.underlying t=some (.slice e)) (hi:P.info? e=some i) (hz:i.zero=some z)
  (hsize:i.size=size) (hby:i.bytes=bytes) (hzs:z.cells.size=size) (hsz:0<size)
  (v:Value) (n:Nat) (xs:List Value) (hs:a.eval s=v) (hown:w.ownsRow base e size v n xs)
  (ad:Option Addr) (m c:Nat) (news:List Value) (hx:a.eval x=.slice ad m c) (hl:news.length=m*size) (hnews:m=0 \/∃b,ad=some b/\∀j u,news[j]? =some u ->w.cell? (b.add j)=some u) (h1:∀u∈news,u.oneCell'=true)
  (h63:n+m<=maxLen) (hbytes:(n+m)*bytes<=140737488355328) (hbase:base<=w.heap.size)
  (h:∀v' w',w'.ownsRow base e size v' (n+m) (xs++news) ->w.grownBy w' v.ownBlock ->(v'.ownBlock=v.ownBlock \/v'.ownBlock=some w.heap.size) ->wpList P ops Q rest (a.put o.dst v') w'):wpList P ops Q (o::rest) a w:=by
 rcases ad with _|b
 ·obtain rfl:m=0:=by
   rcases hnews with h0|⟨_,e,_⟩
   ·exact h0
   ·cases e
  obtain rfl:news=[]:=List.length_eq_zero_iff.1 (by omega);obtain⟨b,cap,e1,hle⟩:∃b cap,v=.slice b n cap/\ n<=cap:=by
   rcases hown.2 with ⟨e,e0⟩|⟨g,cap,cur,e,_,_,hnc,_⟩
   ·exact⟨none,0,by rw [e,e0],by omega⟩
   ·exact⟨_,cap,e,hnc⟩
  refine wpList_plain hgd fun _ hK=> ?_;unfold Oper.wp execOp;rw [e1] at hs;simp only [ho,resolve,invoke,builtin,Sem.run_bind,Sem.run_pure,Result.andThen_ok,List.map_toArray,List.map_cons,List.map_nil,hs,hx,run_app_nil w _ _ _ i ht hi b n cap c hle];refine hK _ _ (h _ _ ?_ ⟨rfl,rfl,rfl,Nat.le_refl _,fun _ _ _=>rfl⟩ (.inl (by rw [e1])));rw [List.append_nil,<- e1];exact hown
 ·refine wpList_app_at hgd s x t ho base e i z size bytes ht hi hz hsize hby hzs hsz v n xs hs hown b m c news hx hl ?_ h1 h63 hbytes hbase h;rcases hnews with h0|⟨b',e,hc⟩
  ·subst h0;obtain rfl:news=[]:=List.length_eq_zero_iff.1 (by omega);intro j u hj;simp at hj
  ·injection e with e;subst e;exact hc
theorem specUnion2 (a:Option Addr)(n c:Nat)(R F T:Nat ->Int)(a':Option Addr)(n' c':Nat)(R' F' T':Nat ->Int)(w:World)(hn:n<=1000)(hn':n'<=1000)(h:RSeg w a n R F T)(h':RSeg w a' n' R' F' T')(ho:okTo R F T n)(ho':okTo R' F' T' n'):
  Calls Tryz.prog 32 #[.agg #[.slice a n c],.agg #[.slice a' n' c']] w fun e w'=>∃v,e=.returned (.agg #[v])/\ FR w' w.heap.size v (unL R F T n R' F' T' n')/\ Below w.heap.size w w':=by
 obtain⟨i0,hi,hz0,hz1,hz2⟩:=info_parts Tryz.infoRun;obtain⟨uk,huk⟩:∃uk:Nat ->List Rn,(fun k=>unF (flat R F T n) (flat R' F' T' k))=uk:=⟨_,rfl⟩;have HU0:Hid (uk 0=flat R F T n):=by rw [<- huk];exact hid rfl
 have HUS:Hid (∀k,uk (k+1)=ins (uk k) (R' k,F' k,T' k)):=by rw [<- huk];exact hid fun k=>by show unF _ (flat R' F' T' (k+1))=_;rw [flat_succ,unF_snoc]
 have HUE:Hid (uk n'=unL R F T n R' F' T' n'):=by rw [<- huk];exact hid rfl
 have HUL:Hid (∀k,(uk k).length<=n+k):=by rw [<- huk];exact hid fun k=>by have:=unF_len (flat R' F' T' k) (flat R F T n);rw [flatR_len,flatR_len] at this;exact this
 have HUF:Hid (∀k,k<=n' ->FSrt (uk k)):=by rw [<- huk];exact hid fun k hk=>(unF_ok _ _ (flat_srt n ho) (flat_srt k (fun i hi=>ho' i (by omega))).2).1
 have HRK:Hid (∀k,k<n' ->Rok (R' k,F' k,T' k)):=hid fun k hk=>runOk_iff.1 (ho' k hk).1;have HFL:=hid (flatR_len R F T n);have HFC:Hid (n=0 \/∃g off,a=some ⟨g,off,none⟩/\ g<w.heap.size/\∀j u,(fCells (flat R F T n))[j]? =some u ->w.cell? ((⟨g,off,none⟩:Addr).add j)=some u):=by
  rcases Nat.eq_zero_or_pos n with h0|h0
  ·exact hid (.inl h0)
  ·obtain⟨b,o,e,hb,_⟩:=h.at h0;rw [e] at h;exact hid (.inr ⟨b,o,e,hb,rseg_cells h⟩)
 clear huk ho ho';obtain⟨fa,hfa⟩:∃fa,flat R F T n=fa:=⟨_,rfl⟩;rw [hfa] at HU0 HFL HFC;clear hfa;obtain⟨W0,hW0⟩:∃W0,((w.alloc (.cells #[.slice a n c] 26)).alloc (.cells #[.slice a' n' c'] 26)).alloc (.cells #[.slice none 0 0] 26)=W0:=⟨_,rfl⟩;obtain⟨Wa,hWa⟩:∃Wa,(w.alloc (.cells #[.slice a n c] 26)).alloc (.cells #[.slice a' n' c'] 26)=Wa:=⟨_,rfl⟩;have za:Wa.heap.size=w.heap.size+2:=by rw [<- hWa];simp
 have bWa:Below w.heap.size w Wa:=by rw [<- hWa];exact below2 _ _ _
 have xa0:Wa.cell? ⟨w.heap.size,0,none⟩=some (.slice a n c):=by rw [<- hWa];simp
 have xa1:Wa.cell? ⟨w.heap.size+1,0,none⟩=some (.slice a' n' c'):=by rw [<- hWa];simp
 have hW0':Wa.alloc (.cells #[.slice none 0 0] 26)=W0:=by rw [<- hWa];exact hW0
 have bW0:Below Wa.heap.size Wa W0:=by rw [<- hW0'];exact(Below.refl _ _).alloc (Nat.le_refl _) _
 have HB0:Hid (Below w.heap.size w W0):=hid (keepS bWa bW0);have HZ0:Hid (W0.heap.size=w.heap.size+3):=hid (by rw [<- hW0'];simp;omega);have x0:W0.cell? ⟨w.heap.size,0,none⟩=some (.slice a n c):=(bW0.cell (p:=⟨w.heap.size,0,none⟩) (show w.heap.size<Wa.heap.size by omega)).trans xa0;have x1:W0.cell? ⟨w.heap.size+1,0,none⟩=some (.slice a' n' c'):=(bW0.cell (p:=⟨w.heap.size+1,0,none⟩) (show w.heap.size+1<Wa.heap.size by omega)).trans xa1;have x2:W0.cell? ⟨w.heap.size+1+1,0,none⟩=some (.slice none 0 0):=by rw [<- hW0',show w.heap.size+1+1=Wa.heap.size from by omega];simp
 have y2:W0.frozen? ⟨w.heap.size+1+1,0,none⟩=false:=by rw [<- hW0',show w.heap.size+1+1=Wa.heap.size from by omega];simp
 clear hWa xa0 xa1 hW0' bW0 bWa za;have HH':=hid h';have HCB:Hid (∀w1,Below w.heap.size w w1 ->n=0 \/∃ad,a=some ad/\∀j u,(fCells fa)[j]? =some u ->w1.cell? (ad.add j)=some u):=by
  refine hid fun w1 hb=> ?_;rcases HFC.out with h0|⟨g,off,e,hg,hc⟩
  ·exact .inl h0
  ·refine .inr ⟨_,e,fun j u hj=> ?_⟩;have h1:=hc j u hj;rw [Addr.add_lit] at h1 ⊢;exact(hb.cell (p:=⟨g,off+j,none⟩) hg).trans h1
 clear h h' HFC;obtain⟨W1,hW1⟩:∃W1,W0.alloc (.cells #[] 87)=W1:=⟨_,rfl⟩;have b1:Below W0.heap.size W0 W1:=by rw [<- hW1];exact(Below.refl _ _).alloc (Nat.le_refl _) _
 have u0:=(b1.cell (p:=⟨w.heap.size,0,none⟩) (show w.heap.size<W0.heap.size by have:=HZ0.out;omega)).trans x0;have u1:=(b1.cell (p:=⟨w.heap.size+1,0,none⟩) (show w.heap.size+1<W0.heap.size by have:=HZ0.out;omega)).trans x1;have u2:=(b1.cell (p:=⟨w.heap.size+1+1,0,none⟩) (show w.heap.size+1+1<W0.heap.size by have:=HZ0.out;omega)).trans x2;have v2:=((bcell b1).2 (w.heap.size+1+1) 0 (by have:=HZ0.out;omega)).trans y2;have HR1:Hid (W1.ownsRow (w.heap.size+3) 87 3 (.slice (some ⟨W0.heap.size,0,none⟩) 0 0) 0 []):=by
  rw [<- hW1];exact hid (World.ownsRow_lit (base:=w.heap.size+3) (e:=87) (size:=3) W0 #[] 0 (by have:=HZ0.out;omega) (by unfold maxLen;omega) rfl)
 have HB1:=hid (keepS HB0.out b1);have HZ1:Hid (w.heap.size+3<=W1.heap.size):=hid (by have:=b1.size;have:=HZ0.out;omega);clear b1 x0 x1 x2 y2;go_enter Tryz.func32,Tryz.ntmps32;go_wp2_with (at_builtin;refine wpList_app_nl rfl _ _ 24 rfl (w.heap.size+3) 87 i0 _ 3 24 Tryz.underlying24 hi hz0 hz1 hz2 rfl (by decide) (.slice (some ⟨W0.heap.size,0,none⟩) 0 0) 0 [] rfl HR1.out a n c (fCells fa) rfl ?c1 (HCB.out W1 HB1.out) (fCells_one fa) ?c4 ?c5 HZ1.out ?_);case c1=>rw [fCells_len,HFL.out]
 case c4=>unfold maxLen;omega
 case c5=>omega
 intro v3 w3 hown3 hgr3 hloc3;have hne:∀q,q<w.heap.size+3 ->some q≠(Value.slice (some ⟨W0.heap.size,0,none⟩) 0 0).ownBlock:=fun q hq e=>by
  have:=HZ0.out;simp [Value.ownBlock] at e;omega
 have z3:w.heap.size+3<=w3.heap.size:=by have:=hgr3.size;have:=HZ1.out;omega
 have d1:=hgr3.cell u1 (hne (w.heap.size+1) (by omega));have d2:=hgr3.cell u2 (hne (w.heap.size+1+1) (by omega));have k2:w3.frozen? ⟨w.heap.size+1+1,0,none⟩=false:=(World.frozen?_of_block (hgr3.block (w.heap.size+1+1) (by have:=HZ1.out;omega) (hne _ (by omega)))).trans v2;have HF3:Hid (FR w3 (w.heap.size+3) v3 (uk 0)):=by
  rw [HU0.out];unfold FR;rw [HFL.out];have h1:=hown3;exact hid h1
 have HB3:Hid (Below w.heap.size w w3):=hid (HB1.out.grown hgr3 (by have:=HZ1.out;omega) (fun k hk=>by have:=HZ0.out;simp [Value.ownBlock] at hk;omega));clear hown3 hgr3 hloc3 u0 u1 u2 v2 hW1 hW0 hne;go_wp2_with fail;go_loopw [5,6] (fun u5 iv wr=>∃(k:Nat),k<=n'/\ iv=.int .i64 k/\ Hid (FR wr (w.heap.size+3) u5 (uk k))/\ wr.cell? ⟨w.heap.size+1,0,none⟩=some (.slice a' n' c')/\ wr.cell? ⟨w.heap.size+1+1,0,none⟩=some (.slice none 0 0)/\ wr.frozen? ⟨w.heap.size+1+1,0,none⟩=false/\ Hid (Below w.heap.size w wr)/\ w.heap.size+3<=wr.heap.size) (fun _ iv _=>n' - (intOf iv).toNat);case atStart=>exact⟨0,Nat.zero_le _,rfl,HF3,d1,d2,k2,HB3,z3⟩
 case round=>
  clear d1 d2 k2 z3;obtain⟨k,hk,rfl,hfr,e1,e2,j2,hbel,zr⟩:=hrel;by_cases hlt:k<n'
  ·obtain⟨gb,ob,rfl,hgb,q0,q1,q2⟩:=(HH'.out.below hbel.out).at hlt;obtain⟨x,cc,rfl,hfs,hcc1,hcc2⟩:=hfr.out.fs;have hul:=HUL.out k;have HC:=hid (specIns x cc (uk k) (R' k) (F' k) (T' k) wr (by omega) hfs (HUF.out k hk) (HRK.out k hlt));have HN:=hid (HUS.out k);obtain⟨ln,hln⟩:∃ln,(uk k).length=ln:=⟨_,rfl⟩;rw [hln] at HC;clear hfs;go_wp2_with fail;try rw [hln]
   refine HC.out.mono ?_;rintro e w4 ⟨v4,rfl,hf4,b4⟩;have HF4:Hid (FR w4 (w.heap.size+3) v4 (uk (k+1))):=by rw [HN.out];exact hid (hf4.weak zr)
   have r1:=(b4.cell (p:=⟨w.heap.size+1,0,none⟩) (show w.heap.size+1<wr.heap.size by omega)).trans e1;have r2:=(b4.cell (p:=⟨w.heap.size+1+1,0,none⟩) (show w.heap.size+1+1<wr.heap.size by omega)).trans e2;have s2:=((bcell b4).2 (w.heap.size+1+1) 0 (by omega)).trans j2;have HB4:=hid (keepS hbel.out b4);have z4:=b4.size;clear hf4 b4 e1 e2 j2 q0 q1 q2 hln;go_wp2_with fail;go_roundw;case rel=>exact⟨k+1,hlt,by go_num,HF4,r1,r2,s2,HB4,by omega⟩
   case measure=>simp [intOf];omega
  ·obtain rfl:k=n':=by omega
   have HFE:Hid (FR wr (w.heap.size+3) u5 (unL R F T n R' F' T' k)):=by rw [<- HUE.out];exact hfr
   obtain⟨y,m,cv,rfl⟩:=row_form HFE.out;have HF6:Hid (FR (wr.setCell ⟨w.heap.size+1+1,0,none⟩ (.slice y m cv)) w.heap.size (.slice y m cv) (unL R F T n R' F' T' k)):=by
    refine hid ?_;refine World.ownsRow.kept (HFE.out.weak (by omega)) (grownSet wr ⟨w.heap.size+1+1,0,none⟩ _) ?_;cases e:(Value.slice y m cv).ownBlock with
    | none=>exact .inl rfl
    | some g=>exact .inr (fun e2=>by have:=(World.ownsRow.lt HFE.out g e).1;injection e2 with e2;have e2:g=w.heap.size+1+1:=e2;omega)
   have HB6:Hid (Below w.heap.size w (wr.setCell ⟨w.heap.size+1+1,0,none⟩ (.slice y m cv))):=hid (hbel.out.setCell (p:=⟨w.heap.size+1+1,0,none⟩) (by show w.heap.size<=w.heap.size+1+1;omega) _);have k6:=World.cell?_setCell_same wr ⟨w.heap.size+1+1,0,none⟩ (.slice y m cv) e2;clear hfr;go_wp2_with fail;refine bodyPost_ret (v:=.agg #[.slice y m cv]) (by simp [results,Tryz.results32,go_sem,k6]) rfl ⟨_,rfl,HF6.out,HB6.out⟩
end Go.Proofs.YtpfmeafmepgimaaGreat
namespace Go.Proofs.YtpfmeafmepgimaaGreat
open Go.ChangeShapes Go.WideShapes Go.ChangeAt Go.RowKit
def gS (p:List ByteArray)(i:Nat):ByteArray:=p.getD i ByteArray.empty
def SSeg (w:World)(a:Option Addr)(p:List ByteArray):Prop:=
 p.length=0 \/∃b off,a=some ⟨b,off,none⟩/\ b<w.heap.size/\∀i,i<p.length ->w.cell? ⟨b,off+i,none⟩=some (.string (gS p i))
theorem SSeg.kept {w w1:World}{B:Nat}{a:Option Addr}{p:List ByteArray}(h:SSeg w a p)(hb:Below B w w1)(hB:w.heap.size<=B):SSeg w1 a p:=by
 refine h.imp id ?_;rintro⟨b,off,e,hlt,hc⟩;exact⟨b,off,e,Nat.lt_of_lt_of_le hlt hb.size,fun i hi=>(hb.cell (p:=⟨b,off+i,none⟩) (Nat.lt_of_lt_of_le hlt hB)).trans (hc i hi)⟩
theorem SSeg.below {w w1:World}{a:Option Addr}{p:List ByteArray}(h:SSeg w a p)(hb:Below w.heap.size w w1):SSeg w1 a p:=h.kept hb (Nat.le_refl _)
structure Lf where
 p:List ByteArray
 fl:Bool
 r:Int
 q:Int
 v:ByteArray
def gL (l:List Lf)(i:Nat):Lf:=l.getD i ⟨[],false,0,0,ByteArray.empty⟩
def LSeg (w:World)(a:Option Addr)(l:List Lf):Prop:=
 l.length=0 \/∃b off,a=some ⟨b,off,none⟩/\ b<w.heap.size/\∀i,i<l.length ->∃pa pc,w.cell? ⟨b,off+i*5,none⟩=some (.slice pa (gL l i).p.length pc)/\ SSeg w pa (gL l i).p/\ w.cell? ⟨b,off+i*5+1,none⟩=some (.bool (gL l i).fl)/\ w.cell? ⟨b,off+i*5+2,none⟩=some (.int .i64 (gL l i).r)/\ w.cell? ⟨b,off+i*5+3,none⟩=some (.int .i64 (gL l i).q)/\ w.cell? ⟨b,off+i*5+4,none⟩=some (.string (gL l i).v)
theorem LSeg.below {w w1:World}{a:Option Addr}{l:List Lf}(h:LSeg w a l)(hb:Below w.heap.size w w1):LSeg w1 a l:=by
 refine h.imp id ?_;rintro⟨b,off,e,hlt,hc⟩;refine⟨b,off,e,Nat.lt_of_lt_of_le hlt hb.size,fun i hi=> ?_⟩;obtain⟨pa,pc,c0,s,c1,c2,c3,c4⟩:=hc i hi;have q:=fun o=>hb.cell (p:=⟨b,o,none⟩) hlt;exact⟨pa,pc,(q _).trans c0,s.below hb,(q _).trans c1,(q _).trans c2,(q _).trans c3,(q _).trans c4⟩
def LfI (x:Lf):Prop:=(Lit.int .i64 x.r).wf=true/\ (Lit.int .i64 x.q).wf=true
theorem addr_addP (b off j:Nat):(⟨b,off,none⟩:Addr).add j=⟨b,off+j,none⟩:=by
 by_cases hj:j=0
 ·subst hj;rfl
 ·simp [Addr.add,hj]
def LBd (l:List Lf):Prop:=∀i,(gL l i).p.length<=1048576
theorem gS_far {p:List ByteArray}{i:Nat}(h:p.length<=i):gS p i=ByteArray.empty:=by simp [gS,List.getD,List.getElem?_eq_none h]
end Go.Proofs.YtpfmeafmepgimaaGreat
