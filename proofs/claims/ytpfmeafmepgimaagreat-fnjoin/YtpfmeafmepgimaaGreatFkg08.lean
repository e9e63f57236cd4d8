import Derived.Test.YtpfmeafmepgimaaGreatFkg06
import Derived.Test.YtpfmeafmepgimaaGreatFkg07
import Derived.Maps.RangeWalk
import Derived.Lib.SlMapMerge
set_option linter.unusedVariables false
set_option linter.unusedSimpArgs false
set_option maxRecDepth 100000
set_option maxHeartbeats 40000000
namespace Go.Proofs.YtpfmeafmepgimaaGreat
open Go.ChangeShapes Go.WideShapes Go.ChangeAt Go.RowKit Go.Maps
theorem Gr.drew {w w1:World}{b0 b:Value}(h:Gr w w1 b0 b):Gr w w1.drew b0 b:=h.trans ⟨⟨rfl,rfl,rfl,Nat.le_refl _,fun _ _ _=>rfl⟩,.inl rfl⟩
def SR (w:World)(B:Nat)(v:Value)(l:List (Int×Int)):Prop:=w.ownsRow B 121 2 v l.length (spanCells l)
theorem spanCells_len (l:List (Int×Int)):(spanCells l).length=l.length*2:=by
 induction l with
 | nil=>rfl
 | cons a l ih=>simp [spanCells] at*;omega
theorem cell2 (w:World)(x y:Value)(t:TypeId):∀j u,[x,y][j]? =some u ->(w.alloc (.cells #[x,y] t)).cell? ((⟨w.heap.size,0,none⟩:Addr).add j)=some u:=by
 intro j u hj;match j,hj with
 | 0,hj=>simp at hj;subst hj;simp [Addr.add]
 | 1,hj=>simp at hj;subst hj;simp [Addr.add]
theorem grownSet (w:World)(p:Addr)(u:Value):w.grownBy (w.setCell p u) (some p.block):=
 ⟨rfl,rfl,rfl,by simp [World.setCell],fun k hk hne=>Below.heap_setCell _ _ _ _ (fun e=>hne (by rw [e]))⟩
structure GrpR (w:World)(bm n:Nat)(D:DataW Value)(G:Int ->Value)(L:Int ->List (Int×Int)):Prop where
 own:w.ownsMap Tryz.prog 3 rawR bm n D
 at':∀r,D.atKey (kI r) (.held (.slice none 0 0))=.held (G r)
 has':∀r,Maps.has D (kI r)= !(L r).isEmpty
 rows:∀r,w.ownsRow 0 121 2 (G r) (L r).length (spanCells (L r))
theorem row_zero {w:World}{B:Nat}{e:TypeId}{s:Nat}{v:Value}{n:Nat}{xs:List Value}(h:w.ownsRow B e s v n xs):w.ownsRow 0 e s v n xs:=by
 obtain⟨h1,h2⟩:=h;refine⟨h1,h2.imp id ?_⟩;rintro⟨g,cap,cur,e,_,r⟩;exact⟨g,cap,cur,e,Nat.zero_le _,r⟩
theorem row_map {w:World}{B bm n:Nat}{e:TypeId}{s:Nat}{v:Value}{m:Nat}{xs:List Value}{D:DataW Value}(h:w.ownsRow B e s v m xs)(hm:w.ownsMap Tryz.prog 3 rawR bm n D):v.ownBlock=none \/v.ownBlock≠some bm:=by
 obtain⟨_,h2⟩:=h;rcases h2 with ⟨rfl,_⟩|⟨g,cap,cur,rfl,_,hg,_⟩
 ·exact .inl rfl
 ·refine .inr (fun e=> ?_);obtain⟨es,clock,hb,_⟩:=hm;have e:g=bm:=by simpa [Value.ownBlock] using e
  rw [e,hb] at hg;cases hg
theorem row_below {w w1:World}{B:Nat}{e:TypeId}{s:Nat}{v:Value}{n:Nat}{xs:List Value}(h:w.ownsRow B e s v n xs)(hb:Below w.heap.size w w1):w1.ownsRow B e s v n xs:=
 owns_below h hb (fun k hk=>(h.lt k hk).2)
theorem row_slice {w:World}{B:Nat}{v:Value}{l:List (Int×Int)}(h:w.ownsRow B 121 2 v l.length (spanCells l)):
  ∃a c,v=.slice a l.length c/\ SS w a l.length (sF l) (sT l)/\ l.length<=c/\ c<=9223372036854775807:=by
 rcases h.2 with ⟨e,e0⟩|⟨g,cap,cur,e,hb,_,hnc,hcm,_⟩
 ·exact⟨none,0,by rw [e,e0],.inl e0,by omega,by omega⟩
 ·exact⟨_,cap,e,by rw [e] at h;exact ss_own h rfl,hnc,by unfold maxLen at hcm;omega⟩
theorem row_form {w:World}{B:Nat}{e:TypeId}{size:Nat}{v:Value}{n:Nat}{xs:List Value}(h:w.ownsRow B e size v n xs):∃y m c,v=.slice y m c:=by
 rcases h.2 with ⟨rfl,_⟩|⟨g,cap,cur,rfl,_⟩
 ·exact⟨_,_,_,rfl⟩
 ·exact⟨_,_,_,rfl⟩
theorem GrpR.gr {w w1:World}{bm n:Nat}{D:DataW Value}{G:Int ->Value}{L:Int ->List (Int×Int)}(h:GrpR w bm n D G L){row:Option Nat}(hg:w.grownBy w1 row)(hr:some bm≠row)(hro:∀r g,(G r).ownBlock=some g ->some g≠row):GrpR w1 bm n D G L:=
 ⟨h.own.kept hg hr,h.at',h.has',fun r=>(h.rows r).kept hg (by
  cases e:(G r).ownBlock with
  | none=>exact .inl rfl
  | some g=>exact .inr (hro r g e))⟩
theorem GrpR.below {w w1:World}{bm n:Nat}{D:DataW Value}{G:Int ->Value}{L:Int ->List (Int×Int)}(h:GrpR w bm n D G L)(hb:Below w.heap.size w w1):GrpR w1 bm n D G L:=
 h.gr (row:=none) ⟨hb.os,hb.tape,hb.output,hb.size,fun k hk _=>hb.block k hk⟩ (by simp) (by simp)
end Go.Proofs.YtpfmeafmepgimaaGreat
namespace Go.Proofs.YtpfmeafmepgimaaGreat
open Go.ChangeShapes Go.WideShapes Go.ChangeAt Go.RowKit Go.Maps Go.Sort
theorem spanCells_last (l:List (Int×Int))(q:Int×Int)(z:Int):(spanCells (l++[q])).set (l.length*2+1) (.int .i64 z)=spanCells (l++[(q.1,z)]):=by
 rw [spanCells_append,spanCells_append,List.set_append_right _ _ (by rw [spanCells_len];omega),spanCells_len,show l.length*2+1 - l.length*2=1 from by omega];rfl
theorem appendSpan (B:Nat)(rv:Value)(l:List (Int×Int))(f t:Int)(w:World)(hB:B<=w.heap.size)(hl:l.length<=1000000)(ho:SR w B rv l)(hlo:∀q∈l,0<=q.2/\ q.2<=1000000000):
  Calls Tryz.prog 84 #[rv,.agg #[.int .i64 f,.int .i64 t]] w fun e w'=>∃v,e=.returned v/\ SR w' B v (appS l (f,t))/\ Gr w w' rv v:=by
 obtain⟨i0,hi,hz0,hz1,hz2⟩:=info_parts Tryz.infoSpan;obtain⟨W0,hW0⟩:∃W0,w.alloc (.cells #[.int .i64 f,.int .i64 t] 121)=W0:=⟨_,rfl⟩;have x0:W0.cell? ⟨w.heap.size,0,none⟩=some (.int .i64 f):=by rw [<- hW0];simp
 have x1:W0.cell? ⟨w.heap.size,1,none⟩=some (.int .i64 t):=by rw [<- hW0];simp
 have HZ0:Hid (W0.heap.size=w.heap.size+1):=by rw [<- hW0];exact hid (by simp)
 have hBW:Hid (B<=W0.heap.size):=by have:=HZ0.out;exact hid (by omega)
 have HO0:Hid (SR W0 B rv l):=by rw [<- hW0];exact World.ownsRow.alloc ho _
 have HG0:Hid (Gr w W0 rv rv):=by rw [<- hW0];exact(Gr.refl _ _).alloc _
 rcases List.eq_nil_or_concat l with rfl|⟨l',q,rfl⟩
 ·have HOd:Hid (SR W0.drew B rv []):=HO0.out;obtain⟨a,cap,rfl⟩:∃a cap,rv=.slice a 0 cap:=by
   rcases ho.2 with ⟨rfl,_⟩|⟨g,cap,cur,rfl,_⟩
   ·exact⟨_,_,rfl⟩
   ·exact⟨_,_,rfl⟩
  ·clear ho;go_enter Tryz.func84,Tryz.ntmps84;go_wp2_with fail;try rw [hW0]
   clear hW0;refine wp_region_held_drew (S:=fun w'=>w'.cell? ⟨w.heap.size,0,none⟩=some (.int .i64 f)) (by kernel_rfl) x0 (fun hHeld=> ?_);refine tZ 0 9 ?_;refine tZ 1 10 ?_;refine tZ 2 11 ?_;refine uZ 3 12 ?_;refine uZ 4 13 ?_;refine uZ 5 14 ?_;refine uZ 6 15 ?_;refine uZ 7 16 ?_;refine uZ 8 17 ?_;refine uZ 9 18 ?_;refine uZ 10 19 ?_;refine uZ 11 20 ?_;refine tZ 12 21 ?_;refine wpAnyH_done (by kernel_rfl) ?_ _;clear hHeld;go_wp2_with (at_builtin;refine wpList_app_at rfl _ _ 109 rfl B 121 i0 _ 2 16 Tryz.underlying109 hi hz0 hz1 hz2 rfl (by decide) _ _ _ rfl (World.ownsRow.alloc HOd.out _) ⟨W0.heap.size,0,none⟩ 1 1 [.int .i64 f,.int .i64 t] rfl rfl ?c1 ?c2 ?c3 ?c4 ?c5 ?_);case c1=>exact cell2 _ _ _ _
   case c2=>intro u hu;simp at hu;rcases hu with rfl|rfl<;>rfl
   case c3=>unfold maxLen;simp
   case c4=>simp
   case c5=>have:=hBW.out;simp;omega
   intro v' w1 hown' hgr hloc;have R:Hid (SR w1 B v' (appS [] (f,t))):=by rw [appS_nil];exact hown'
   have RG:=hid ((HG0.out.alloc _).drew.trans (Gr.app (b':=v') hgr (by simpa using hloc)));clear hown' hgr hloc x0 x1;go_wp2_with fail;go_ret;exact⟨v',rfl,R.out,RG.out⟩
 ·simp only [List.concat_eq_append] at*;obtain⟨qf,qt⟩:=q;have hq:=hlo (qf,qt) (by simp);obtain⟨m,hm⟩:∃m,l'.length=m:=⟨_,rfl⟩;have hlen:(l'++[(qf,qt)]).length=m+1:=by simp [hm]
  rcases ho.2 with ⟨_,e0⟩|⟨g,cap,cur,rfl,hbg,_,hnc,hcm,_,_⟩
  ·simp at e0
  have hgne:g≠w.heap.size:=fun e=>by have:=(World.ownsRow.lt ho g rfl).2;omega
  have hcg:W0.cell? ⟨g,m*2+1,none⟩=some (.int .i64 qt):=by
   rw [World.ownsRow.cellAt HO0.out _ (by rw [hlen];omega),spanCells_append,List.getElem?_append_right (by rw [spanCells_len];omega),spanCells_len,hm,show m*2+1 - m*2=1 from by omega];rfl
  have hfz:=World.ownsRow.frozenAt HO0.out (m*2+1);have HUP:=hid (fun(h:¬qt+1<f)=>appS_up (l:=l') (q:=(qf,qt)) (p:=(f,t)) h);have HGA:=hid (fun(h:qt+1<f)=>appS_gap (l:=l') (q:=(qf,qt)) (p:=(f,t)) h);have HSET:=hid (spanCells_last l' (qf,qt) (max qt t));have HST:=hid (World.ownsRow.stored HO0.out (m*2+1) (.int .i64 (max qt t)));have HOd:Hid (W0.drew.ownsRow B 121 2 (.slice (some ⟨g,0,none⟩) (m+1) cap) (m+1) (spanCells (l'++[(qf,qt)]))):=by
   have:=HO0.out;unfold SR at this;rw [hlen] at this;exact this
  rw [hm] at HSET;rw [hlen] at hnc hl HST HG0 ⊢;unfold maxLen at hcm;have HM:=hid hm;have HLEN:=hid hlen;clear ho hlo hm hlen HO0;have x2:IntKind.i64.wrap (qt+1)=qt+1:=wrapIn _ (by omega) (by omega);have hm0:decide ((m:Int)<0)=false:=by simp
  have hm1:(m:Int)<(m:Int)+1:=by omega
  by_cases hgap:qt+1<f
  ·have t1:decide (qt+1<f)=true:=by simp;exact hgap
   have HGP:=hid (HGA.out hgap);clear hgap;go_enter Tryz.func84,Tryz.ntmps84;go_wp2_with fail;try rw [hW0]
   clear hW0;refine wp_region_held_drew (S:=fun w'=>w'.cell? ⟨w.heap.size,0,none⟩=some (.int .i64 f)/\ w'.cell? ⟨g,m*2+1,none⟩=some (.int .i64 qt)) (by kernel_rfl) ⟨x0,hcg⟩ (fun hHeld=> ?_);refine tZ 0 9 ?_;refine tZ 1 10 ?_;refine tZ 2 11 ?_;refine tZ 3 12 ?_;refine tZ 4 13 ?_;refine tZ 5 14 ?_;refine tZ 6 15 ?_;refine tZ 7 16 ?_;refine tZ 8 17 ?_;refine tZ 9 18 ?_;refine tZ 10 19 ?_;refine tZ 11 20 ?_;refine tZ 12 21 ?_;refine wpAnyH_done (by kernel_rfl) ?_ _;clear hHeld;go_wp2_with (at_builtin;refine wpList_app_at rfl _ _ 109 rfl B 121 i0 _ 2 16 Tryz.underlying109 hi hz0 hz1 hz2 rfl (by decide) _ _ _ rfl (World.ownsRow.alloc HOd.out _) ⟨W0.heap.size,0,none⟩ 1 1 [.int .i64 f,.int .i64 t] rfl rfl ?c1 ?c2 ?c3 ?c4 ?c5 ?_);case c1=>exact cell2 _ _ _ _
   case c2=>intro u hu;simp at hu;rcases hu with rfl|rfl<;>rfl
   case c3=>unfold maxLen;omega
   case c4=>omega
   case c5=>have:=hBW.out;simp;omega
   intro v' w1 hown' hgr hloc;have R:Hid (SR w1 B v' (appS (l'++[(qf,qt)]) (f,t))):=by
    rw [HGP.out];unfold SR;rw [spanCells_append,List.length_append,HLEN.out];exact hown'
   have RG:=hid ((HG0.out.alloc _).drew.trans (Gr.app (b':=v') hgr (by simpa using hloc)));clear hown' hgr hloc x0 x1;go_wp2_with fail;go_ret;exact⟨v',rfl,R.out,RG.out⟩
  ·have t1:decide (qt+1<f)=false:=by simp;omega
   have HGP:=hid (HUP.out hgap);clear hgap;go_enter Tryz.func84,Tryz.ntmps84;go_wp2_with fail;try rw [hW0]
   clear hW0;refine wp_region_held_drew (S:=fun w'=>w'.cell? ⟨w.heap.size,0,none⟩=some (.int .i64 f)/\ w'.cell? ⟨g,m*2+1,none⟩=some (.int .i64 qt)) (by kernel_rfl) ⟨x0,hcg⟩ (fun hHeld=> ?_);refine tZ 0 9 ?_;refine tZ 1 10 ?_;refine tZ 2 11 ?_;refine tZ 3 12 ?_;refine tZ 4 13 ?_;refine tZ 5 14 ?_;refine tZ 6 15 ?_;refine tZ 7 16 ?_;refine tZ 8 17 ?_;refine tZ 9 18 ?_;refine tZ 10 19 ?_;refine tZ 11 20 ?_;refine tZ 12 21 ?_;refine wpAnyH_done (by kernel_rfl) ?_ _;clear hHeld;go_wp2_with fail;refine wp_region_held_drew (S:=fun w'=>w'.cell? ⟨w.heap.size,1,none⟩=some (.int .i64 t)) (by kernel_rfl) x1 (fun hHeld=> ?_);refine tZ 0 26 ?_;refine tZ 1 27 ?_;refine tZ 2 28 ?_;refine tZ 3 29 ?_;refine tZ 4 30 ?_;refine tZ 5 31 ?_;refine tZ 7 33 ?_;refine tZ 8 34 ?_;refine cZ 6 ?_;intro K hK;go_simp;refine hK.out _ _ x1 (fun hHeld=> ?_);clear hK K;try simp only [Act.put,sZa,sZb,sZc]
   refine tZ 9 35 ?_;refine tZ 10 36 ?_;refine tZ 11 37 ?_;refine cZ 12 ?_;intro K hK;go_simp;have x3:(W0.setCell ⟨g,m*2+1,none⟩ (.int .i64 (max qt t))).drew.drew.cell? ⟨w.heap.size,1,none⟩=some (.int .i64 t):=by
    rw [<- x1];exact World.cell?_of_block (Below.heap_setCell _ _ _ _ (fun e=>hgne e.symm))
   refine hK.out _ _ x3 (fun hHeld=> ?_);clear hK K;try simp only [Act.put,sZa,sZb,sZc]
   refine wpAnyH_done (by kernel_rfl) ?_ _;clear hHeld;have R:Hid (SR (W0.setCell ⟨g,m*2+1,none⟩ (.int .i64 (max qt t))) B (.slice (some ⟨g,0,none⟩) (m+1) cap) (appS (l'++[(qf,qt)]) (f,t))):=by
    rw [HGP.out];unfold SR;show World.ownsRow _ _ _ _ _ (l'++[(qf,max qt t)]).length _;rw [<- HSET.out,show (l'++[(qf,max qt t)]).length=m+1 from by simp [HM.out]];exact HST.out.1
   have RG:Hid (Gr w (W0.setCell ⟨g,m*2+1,none⟩ (.int .i64 (max qt t))).drew.drew (.slice (some ⟨g,0,none⟩) (m+1) cap) (.slice (some ⟨g,0,none⟩) (m+1) cap)):=
    ((HG0.out.trans ⟨grownSet W0 ⟨g,m*2+1,none⟩ (.int .i64 (max qt t)),.inl rfl⟩).drew).drew
   clear x0 x1 x3 hcg hfz HST;go_wp2_with fail;go_ret;exact⟨_,rfl,R.out,RG.out⟩
def Sfx (w:World)(l:List (Int×Int))(i k:Nat)(x:Option Addr):Prop:=
 i+k=l.length/\ (k=0 \/∃g o,x=some ⟨g,o,none⟩/\ g<w.heap.size/\∀j,j<k ->w.cell? ⟨g,o+j*2,none⟩=some (.int .i64 (sF l (i+j)))/\ w.cell? ⟨g,o+j*2+1,none⟩=some (.int .i64 (sT l (i+j))))
theorem Sfx.start {w:World}{l:List (Int×Int)}{a:Option Addr}(h:SS w a l.length (sF l) (sT l)):Sfx w l 0 l.length a:=by
 refine⟨by omega,?_⟩;rcases h with h|⟨b,off,rfl,hb,hc⟩
 ·exact .inl h
 ·exact .inr ⟨b,off,rfl,hb,fun j hj=>by rw [Nat.zero_add];exact hc j hj⟩
theorem Sfx.next {w:World}{l:List (Int×Int)}{i k g o:Nat}(h:Sfx w l i (k+1) (some ⟨g,o,none⟩)):Sfx w l (i+1) k (some ⟨g,o+2,none⟩):=by
 obtain⟨h1,h2⟩:=h;refine⟨by omega,?_⟩;rcases h2 with h2|⟨g',o',e,hg,hc⟩
 ·omega
 ·injection e with e;injection e with e1 e2;subst e1 e2;refine .inr ⟨g,o+2,rfl,hg,fun j hj=> ?_⟩;have:=hc (j+1) (by omega);rw [show o+(j+1)*2=o+2+j*2 from by omega,show i+(j+1)=i+1+j from by omega] at this;exact this
theorem Sfx.below {w w1:World}{l:List (Int×Int)}{i k:Nat}{x:Option Addr}(h:Sfx w l i k x)(hb:Below w.heap.size w w1):Sfx w1 l i k x:=by
 obtain⟨h1,h2⟩:=h;refine⟨h1,h2.imp id ?_⟩;rintro⟨g,o,e,hg,hc⟩;exact⟨g,o,e,Nat.lt_of_lt_of_le hg hb.size,fun j hj=>⟨(hb.cell (p:=⟨g,_,none⟩) hg).trans (hc j hj).1,(hb.cell (p:=⟨g,_,none⟩) hg).trans (hc j hj).2⟩⟩
theorem Sfx.block {w:World}{l:List (Int×Int)}{i k:Nat}{x:Option Addr}(h:Sfx w l i k x)(hk:0<k):∃g o,x=some ⟨g,o,none⟩/\ g<w.heap.size/\ w.cell? ⟨g,o,none⟩=some (.int .i64 (sF l i))/\ w.cell? ⟨g,o+1,none⟩=some (.int .i64 (sT l i)):=by
 rcases h.2 with h|⟨g,o,e,hg,hc⟩
 ·omega
 ·have:=hc 0 hk;simp at this;exact⟨g,o,e,hg,this⟩
theorem SR.below {w:World}{B:Nat}{v v1:Value}{l:List (Int×Int)}{w0 w1:World}(h:SR w B v l)(hb:Below B w0 w)(hB:B<=w.heap.size)(hg:Gr w w1 v v1):Below B w0 w1:=
 hb.trans (hg.below hB (fun k hk=>(World.ownsRow.lt h k hk).1))
def lenOf:Value ->Nat
 | .slice _ n _=>n
 | _=>0
theorem mergeSpans (a:Option Addr)(ca:Nat)(b:Option Addr)(cb:Nat)(la lb:List (Int×Int))(w:World)(hsa:SS w a la.length (sF la) (sT la))(hsb:SS w b lb.length (sF lb) (sT lb))
  (hca:la.length<=ca) (hca':ca<=9223372036854775807) (hcb:lb.length<=cb) (hcb':cb<=9223372036854775807) (ha:Srt la) (hb:Srt lb) (hna:la.length<=2000) (hnb:lb.length<=2000):
  Calls Tryz.prog 68 #[.slice a la.length ca,.slice b lb.length cb] w fun e w'=>∃v l,e=.returned v/\ SR w' w.heap.size v l/\ Below w.heap.size w w'/\ Srt l/\ (∀x,In l x↔(In la x \/In lb x))/\ l.length<=la.length+lb.length:=by
 obtain⟨i0,hi,hz0,hz1,hz2⟩:=info_parts Tryz.infoSpan;have HSA:=hid (Sfx.start hsa);have HSB:=hid (Sfx.start hsb);have HRA:=hid ha;have HRB:=hid hb;have HLO:Hid (∀m,Srt m ->∀q∈m,0<=q.2/\ q.2<=1000000000):=fun m hm q hq=>by have:=hm.2 q hq;omega
 clear hsa hsb ha hb;obtain⟨na,hna1⟩:∃na,la.length=na:=⟨_,rfl⟩;obtain⟨nb,hnb1⟩:∃nb,lb.length=nb:=⟨_,rfl⟩;rw [hna1] at HSA hca hna;rw [hnb1] at HSB hcb hnb;rw [hna1,hnb1];have HNA:=hid hna1;have HNB:=hid hnb1;clear hna1 hnb1;obtain⟨cc,hcc⟩:∃cc:Nat,na+nb=cc:=⟨_,rfl⟩;have hw:IntKind.i64.wrap ((na:Int)+(nb:Int))=(cc:Int):=by rw [<- hcc];exact wrapIn _ (by omega) (by omega)
 have hmk:=run_makeSlice_owned (P:=Tryz.prog) w w.heap.size 109 121 i0 _ 2 Tryz.underlying109 hi hz0 hz1 .i64 .i64 cc (by omega) (by rw [hz2];omega) (by unfold maxLen;omega) (Nat.le_refl _);obtain⟨w1,hmk1,hmk2,hmk3⟩:=hmk;have HB1:Hid (Below w.heap.size w w1):=(Below.refl _ _).grown hmk3 (Nat.le_refl _) (fun _ h=>by cases h);have HR1:Hid (SR w1 w.heap.size (.slice (some ⟨w.heap.size,0,none⟩) 0 cc) []):=hmk2;clear hmk2 hmk3;have hcl:cc<=4000:=by omega
 clear hcc;go_enter Tryz.func68,Tryz.ntmps68;go_wp2_with fail;go_loopw [0,1,5] (fun u0 u1 u5 wr=>∃(i ia cia:Nat) (xa:Option Addr) (j ib cib:Nat) (xb:Option Addr) (m:List (Int×Int)),u0=.slice xa ia cia/\ u1=.slice xb ib cib/\ ia<=cia/\ cia<=9223372036854775807/\ ib<=cib/\ cib<=9223372036854775807/\ ia<=2000/\ ib<=2000/\ Hid (Sfx w la i ia xa)/\ Hid (Sfx w lb j ib xb)/\ Hid (MInv la lb m i j)/\ Hid (SR wr w.heap.size u5 m)/\ Hid (Below w.heap.size w wr))
  (fun u0 u1 _ _=>lenOf u0+lenOf u1)
 case atStart=>exact⟨0,na,ca,a,0,nb,cb,b,[],rfl,rfl,hca,hca',hcb,hcb',hna,hnb,HSA,HSB,hid (MInv.start la lb),HR1,HB1⟩
 case round=>
  clear hmk1;obtain⟨i,ia,cia,xa,j,ib,cib,xb,m,rfl,rfl,ha1,ha2,hb1,hb2,ha3,hb3,hsa,hsb,hmi,hsr,hbel⟩:=hrel;have hml:m.length<=1000000:=by
   have h1:=hmi.out.len;have h2:=hsa.out.1;have h3:=hsb.out.1;have:=HNA.out;have:=HNB.out;omega
  have hzw:=hbel.out.size;by_cases hboth:0<ia/\ 0<ib
  ·obtain⟨hpa,hpb⟩:=hboth;obtain⟨ga,oa,rfl,hga,ca0,ca1⟩:=(hsa.out.below hbel.out).block hpa;obtain⟨gb,ob,rfl,hgb,cb0,cb1⟩:=(hsb.out.below hbel.out).block hpb;obtain⟨ka,rfl⟩:∃ka,ia=ka+1:=⟨ia - 1,by omega⟩;obtain⟨kb,rfl⟩:∃kb,ib=kb+1:=⟨ib - 1,by omega⟩;obtain⟨kca,rfl⟩:∃k,cia=k+1:=⟨cia - 1,by omega⟩;obtain⟨kcb,rfl⟩:∃k,cib=k+1:=⟨cib - 1,by omega⟩;have HGA:Hid (ga<w.heap.size):=by
    rcases hsa.out.2 with h|⟨g,o,e,hg,_⟩
    ·omega
    ·injection e with e;injection e with e1 e2;subst e1;exact hid hg
   have HGB:Hid (gb<w.heap.size):=by
    rcases hsb.out.2 with h|⟨g,o,e,hg,_⟩
    ·omega
    ·injection e with e;injection e with e1 e2;subst e1;exact hid hg
   have HRd:Hid (SR wr.drew.drew w.heap.size u5 m):=hsr.out;have HIA:Hid (i<la.length):=by have:=hsa.out.1;exact hid (by omega)
   have HJB:Hid (j<lb.length):=by have:=hsb.out.1;exact hid (by omega)
   have hneA:some ga≠u5.ownBlock:=fun e=>by have:=(World.ownsRow.lt hsr.out ga e.symm).1;have:=HGA.out;omega
   have hneB:some gb≠u5.ownBlock:=fun e=>by have:=(World.ownsRow.lt hsr.out gb e.symm).1;have:=HGB.out;omega
   clear hga hgb;by_cases hle:sF la i<=sF lb j
   ·have t1:decide (sF la i<=sF lb j)=true:=by simp;exact hle
    obtain⟨xa',hxa⟩:∃x,(if kca=0 then some (⟨ga,oa,none⟩:Addr) else some ⟨ga,oa+2,none⟩)=x:=⟨_,rfl⟩;have hn1:(1:Int)<=(ka:Int)+1:=by omega
    have HNX:Hid (Sfx w la (i+1) ka xa'):=by
     by_cases h0:kca=0
     ·exact hid ⟨by have:=hsa.out.1;omega,.inl (by omega)⟩
     ·rw [if_neg h0] at hxa;subst hxa;exact hid hsa.out.next
    have HMI:=hid (hmi.out.stepA HRA.out HRB.out HIA.out (fun _=>hle));clear hle;go_wp2_with fail;refine wp_region_held_drew (S:=fun w'=>w'.cell? ⟨ga,oa,none⟩=some (.int .i64 (sF la i))/\ w'.cell? ⟨gb,ob,none⟩=some (.int .i64 (sF lb j))) (by kernel_rfl) ⟨ca0,cb0⟩ (fun hHeld=> ?_);refine tZ 0 24 ?_;refine tZ 1 25 ?_;refine tZ 2 26 ?_;refine tZ 3 27 ?_;refine tZ 4 28 ?_;refine tZ 5 29 ?_;refine tZ 6 30 ?_;refine tZ 7 31 ?_;refine tZ 8 32 ?_;refine wpAnyH_done (by kernel_rfl) ?_ _;clear hHeld;go_wp2_with fail;refine wp_region_held_drew (S:=fun w'=>w'.cell? ⟨ga,oa,none⟩=some (.int .i64 (sF la i))/\ w'.cell? ⟨ga,oa+1,none⟩=some (.int .i64 (sT la i))) (by kernel_rfl) ⟨ca0,ca1⟩ (fun hHeld=> ?_);refine tZ 0 33 ?_;refine tZ 1 34 ?_;refine tZ 2 35 ?_;refine tZ 3 36 ?_;refine tZ 5 38 ?_;refine tZ 6 39 ?_;refine cZ 4 ?_;intro K hK;go_simp;refine(appendSpan w.heap.size _ m (sF la i) (sT la i) wr.drew.drew hzw hml HRd.out (HLO.out m hmi.out.s)).mono ?_;rintro e w2 ⟨v2,rfl,hs2,hg2⟩;have hgr2:Gr wr w2 u5 v2:=((Gr.refl wr u5).drew.drew).trans hg2;have HB2:=hid (hsr.out.below hbel.out hzw hgr2);have HS2:=hid hs2;have d0:w2.cell? ⟨ga,oa,none⟩=some (.int .i64 (sF la i)):=hgr2.g.cell ca0 hneA;have d1:w2.cell? ⟨ga,oa+1,none⟩=some (.int .i64 (sT la i)):=hgr2.g.cell ca1 hneA;clear hs2 hg2 hgr2;refine hK.out _ _ ⟨d0,d1⟩ (fun hHeld=> ?_);clear hK K;try simp only [Act.put,sZa,sZb,sZc]
    refine tZ 7 5 ?_;refine tZ 8 0 ?_;refine wpAnyH_done (by kernel_rfl) ?_ _;clear hHeld d0 d1 ca0 ca1 cb0 cb1;go_wp2_with fail;go_roundw;case rel=>exact⟨i+1,ka,kca,xa',j,kb+1,kcb+1,_,_,rfl,rfl,by omega,by omega,by omega,by omega,by omega,by omega,HNX,hsb,HMI,HS2,HB2⟩
    case measure=>simp [lenOf]
   ·have t1:decide (sF la i<=sF lb j)=false:=by simp;omega
    obtain⟨xb',hxb⟩:∃x,(if kcb=0 then some (⟨gb,ob,none⟩:Addr) else some ⟨gb,ob+2,none⟩)=x:=⟨_,rfl⟩;have hn1:(1:Int)<=(kb:Int)+1:=by omega
    have HNX:Hid (Sfx w lb (j+1) kb xb'):=by
     by_cases h0:kcb=0
     ·exact hid ⟨by have:=hsb.out.1;omega,.inl (by omega)⟩
     ·rw [if_neg h0] at hxb;subst hxb;exact hid hsb.out.next
    have HMI:=hid (hmi.out.stepB HRA.out HRB.out HJB.out (fun _=>by show sF lb j<=sF la i;omega));clear hle;go_wp2_with fail;refine wp_region_held_drew (S:=fun w'=>w'.cell? ⟨ga,oa,none⟩=some (.int .i64 (sF la i))/\ w'.cell? ⟨gb,ob,none⟩=some (.int .i64 (sF lb j))) (by kernel_rfl) ⟨ca0,cb0⟩ (fun hHeld=> ?_);refine tZ 0 24 ?_;refine tZ 1 25 ?_;refine tZ 2 26 ?_;refine tZ 3 27 ?_;refine tZ 4 28 ?_;refine tZ 5 29 ?_;refine tZ 6 30 ?_;refine tZ 7 31 ?_;refine tZ 8 32 ?_;refine wpAnyH_done (by kernel_rfl) ?_ _;clear hHeld;go_wp2_with fail;refine wp_region_held_drew (S:=fun w'=>w'.cell? ⟨gb,ob,none⟩=some (.int .i64 (sF lb j))/\ w'.cell? ⟨gb,ob+1,none⟩=some (.int .i64 (sT lb j))) (by kernel_rfl) ⟨cb0,cb1⟩ (fun hHeld=> ?_);refine tZ 0 40 ?_;refine tZ 1 41 ?_;refine tZ 2 42 ?_;refine tZ 3 43 ?_;refine tZ 5 45 ?_;refine tZ 6 46 ?_;refine cZ 4 ?_;intro K hK;go_simp;refine(appendSpan w.heap.size _ m (sF lb j) (sT lb j) wr.drew.drew hzw hml HRd.out (HLO.out m hmi.out.s)).mono ?_;rintro e w2 ⟨v2,rfl,hs2,hg2⟩;have hgr2:Gr wr w2 u5 v2:=((Gr.refl wr u5).drew.drew).trans hg2;have HB2:=hid (hsr.out.below hbel.out hzw hgr2);have HS2:=hid hs2;have d0:w2.cell? ⟨gb,ob,none⟩=some (.int .i64 (sF lb j)):=hgr2.g.cell cb0 hneB;have d1:w2.cell? ⟨gb,ob+1,none⟩=some (.int .i64 (sT lb j)):=hgr2.g.cell cb1 hneB;clear hs2 hg2 hgr2;refine hK.out _ _ ⟨d0,d1⟩ (fun hHeld=> ?_);clear hK K;try simp only [Act.put,sZa,sZb,sZc]
    refine tZ 7 5 ?_;refine tZ 8 1 ?_;refine wpAnyH_done (by kernel_rfl) ?_ _;clear hHeld d0 d1 ca0 ca1 cb0 cb1;go_wp2_with fail;go_roundw;case rel=>exact⟨i,ka+1,kca+1,_,j+1,kb,kcb,xb',_,rfl,rfl,by omega,by omega,by omega,by omega,by omega,by omega,hsa,HNX,HMI,HS2,HB2⟩
    case measure=>simp [lenOf]
  ·have HBO:Hid (ia=0 \/ib=0):=hid (by omega);clear hboth;rcases Nat.eq_zero_or_pos ia with hia|hia;case' inl=>
    have e1:decide (0<ia)=false:=by simp;exact hia
    clear hia;go_wp2_with fail
   case' inr=>
    have e1:decide (0<ia)=true:=by simp;exact hia
    have e2:decide (0<ib)=false:=by simp;have:=HBO.out;omega
    clear hia;go_wp2_with fail
   all_goals (
    go_loopw [5,49] (fun v5 iv wr2=>∃(k:Nat) (m':List (Int×Int)),k<=ia/\ iv=.int .i64 k/\ Hid (MInv la lb m' (i+k) j)/\ Hid (SR wr2 w.heap.size v5 m')/\ Hid (Below w.heap.size w wr2)) (fun _ iv _=>ia - (intOf iv).toNat);case atStart=>exact⟨0,m,Nat.zero_le _,rfl,hmi,hsr,hbel⟩
    case round=>
     clear hmi hsr hbel hzw hml;obtain⟨k,m',hk,rfl,hmi2,hsr2,hbel2⟩:=hrel;have hml2:m'.length<=1000000:=by
      have h1:=hmi2.out.len;have:=HNA.out;have:=HNB.out;omega
     have hzw2:=hbel2.out.size;by_cases hlt:k<ia
     ·have hcell:∃g o,xa=some ⟨g,o,none⟩/\ wr.cell? ⟨g,o+k*2,none⟩=some (.int .i64 (sF la (i+k)))/\ wr.cell? ⟨g,o+k*2+1,none⟩=some (.int .i64 (sT la (i+k))):=by
       rcases (hsa.out.below hbel2.out).2 with h|⟨g,o,e,hg,hc⟩
       ·omega
       ·exact⟨g,o,e,hc k hlt⟩
      obtain⟨g,o,rfl,c0,c1⟩:=hcell;have HMI:=hid (hmi2.out.stepA HRA.out HRB.out (by have:=hsa.out.1;omega) (fun hj=>by have:=hsb.out.1;have:=HBO.out;omega));obtain⟨qf,hqf⟩:∃q,sF la (i+k)=q:=⟨_,rfl⟩;obtain⟨qt,hqt⟩:∃q,sT la (i+k)=q:=⟨_,rfl⟩;have HQ:Hid (la.getD (i+k) (0,0)=(qf,qt)):=by rw [<- hqf,<- hqt];exact rfl
      rw [hqf] at c0;rw [hqt] at c1;clear hqf hqt;obtain⟨W1,hW1⟩:∃W1,wr.alloc (.cells #[.int .i64 qf,.int .i64 qt] 121)=W1:=⟨_,rfl⟩;have r0:W1.cell? ⟨wr.heap.size,0,none⟩=some (.int .i64 qf):=by rw [<- hW1];simp
      have r1:W1.cell? ⟨wr.heap.size,1,none⟩=some (.int .i64 qt):=by rw [<- hW1];simp
      have HS1:Hid (SR W1 w.heap.size u5 m'):=by rw [<- hW1];exact World.ownsRow.alloc hsr2.out _
      have HG1:Hid (Gr wr W1 u5 u5):=by rw [<- hW1];exact(Gr.refl _ _).alloc _
      have HZ1:Hid (w.heap.size<=W1.heap.size):=by have:=HG1.out.g.size;exact hid (by omega)
      go_wp2_with fail;try rw [hW1]
      refine(appendSpan w.heap.size u5 m' qf qt W1 HZ1.out hml2 HS1.out (HLO.out m' hmi2.out.s)).mono ?_;rintro e w2 ⟨v2,rfl,hs2,hg2⟩;have HB2:=hid (hsr2.out.below hbel2.out hzw2 (HG1.out.trans hg2));have HS2:=hid hs2;clear hs2 hg2 hW1 c0 c1 r0 r1;go_wp2_with fail;go_roundw;case rel=>exact⟨k+1,_,hlt,by go_num,by have:=HMI;rw [HQ.out] at this;exact this,HS2,HB2⟩
      case measure=>simp [intOf];omega
     ·obtain rfl:k=ia:=by omega
      have HM2:Hid (MInv la lb m' la.length j):=by
       have h1:=hsa.out.1;have h2:=hmi2.out;rw [h1] at h2;exact hid h2
      clear hlt hmi2;go_wp2_with fail;go_loopw [5,59] (fun v5 iv wr2=>∃(k:Nat) (m':List (Int×Int)),k<=ib/\ iv=.int .i64 k/\ Hid (MInv la lb m' la.length (j+k))/\ Hid (SR wr2 w.heap.size v5 m')/\ Hid (Below w.heap.size w wr2)) (fun _ iv _=>ib - (intOf iv).toNat);case atStart=>exact⟨0,m',Nat.zero_le _,rfl,HM2,hsr2,hbel2⟩
      case round=>
       clear HM2 hsr2 hbel2 hzw2 hml2 hk;obtain⟨k,m',hk,rfl,hmi2,hsr2,hbel2⟩:=hrel;have hml2:m'.length<=1000000:=by
        have h1:=hmi2.out.len;have:=HNA.out;have:=HNB.out;omega
       have hzw2:=hbel2.out.size;by_cases hlt:k<ib
       ·have hcell:∃g o,xb=some ⟨g,o,none⟩/\ wr.cell? ⟨g,o+k*2,none⟩=some (.int .i64 (sF lb (j+k)))/\ wr.cell? ⟨g,o+k*2+1,none⟩=some (.int .i64 (sT lb (j+k))):=by
         rcases (hsb.out.below hbel2.out).2 with h|⟨g,o,e,hg,hc⟩
         ·omega
         ·exact⟨g,o,e,hc k hlt⟩
        obtain⟨g,o,rfl,c0,c1⟩:=hcell;have HMI:=hid (hmi2.out.stepB HRA.out HRB.out (by have:=hsb.out.1;omega) (fun hj=>by omega));obtain⟨qf,hqf⟩:∃q,sF lb (j+k)=q:=⟨_,rfl⟩;obtain⟨qt,hqt⟩:∃q,sT lb (j+k)=q:=⟨_,rfl⟩;have HQ:Hid (lb.getD (j+k) (0,0)=(qf,qt)):=by rw [<- hqf,<- hqt];exact rfl
        rw [hqf] at c0;rw [hqt] at c1;clear hqf hqt;obtain⟨W1,hW1⟩:∃W1,wr.alloc (.cells #[.int .i64 qf,.int .i64 qt] 121)=W1:=⟨_,rfl⟩;have r0:W1.cell? ⟨wr.heap.size,0,none⟩=some (.int .i64 qf):=by rw [<- hW1];simp
        have r1:W1.cell? ⟨wr.heap.size,1,none⟩=some (.int .i64 qt):=by rw [<- hW1];simp
        have HS1:Hid (SR W1 w.heap.size u5 m'):=by rw [<- hW1];exact World.ownsRow.alloc hsr2.out _
        have HG1:Hid (Gr wr W1 u5 u5):=by rw [<- hW1];exact(Gr.refl _ _).alloc _
        have HZ1:Hid (w.heap.size<=W1.heap.size):=by have:=HG1.out.g.size;exact hid (by omega)
        go_wp2_with fail;try rw [hW1]
        refine(appendSpan w.heap.size u5 m' qf qt W1 HZ1.out hml2 HS1.out (HLO.out m' hmi2.out.s)).mono ?_;rintro e w2 ⟨v2,rfl,hs2,hg2⟩;have HB2:=hid (hsr2.out.below hbel2.out hzw2 (HG1.out.trans hg2));have HS2:=hid hs2;clear hs2 hg2 hW1 c0 c1 r0 r1;go_wp2_with fail;go_roundw;case rel=>exact⟨k+1,_,hlt,by go_num,by have:=HMI;rw [HQ.out] at this;exact this,HS2,HB2⟩
        case measure=>simp [intOf];omega
       ·obtain rfl:k=ib:=by omega
        have HD:Hid (Srt m'/\ (∀x,In m' x↔(In la x \/In lb x))/\ m'.length<=la.length+lb.length):=by
         have h1:=hsb.out.1;have h2:=hmi2.out;rw [h1] at h2;exact hid h2.done
        clear hmi2 hlt;go_wp2_with fail;go_ret;refine⟨_,m',rfl,hsr2.out,hbel2.out,HD.out.1,HD.out.2.1,?_⟩;have:=HD.out.2.2;have:=HNA.out;have:=HNB.out;omega)
theorem wpList_next_raw {P:Program}(w:World){ops:Array Oper}{rest:List Oper}{o:Oper}{a:Act}{Q:Exit ->Act ->World ->Prop}(hg:o.guard=none)(it:Operand)(hop:o.op=Op.next it false)(k:TypeId)(K:Keyed P k)(hk:P.underlying k=some (.int .i64))
  (b r n:Nat) (D:DataW Value) (left:Lit ->Bool) (cnt:Nat) (hit:a.eval it=.pointer (some ⟨r,0,none⟩)) (h:w.ranges P k rawR b r n D left cnt)
  (hDone:(∀kl,left kl=false) ->wpList P ops Q rest (a.put o.dst (.tuple #[.bool false])) w)
  (hMore:∀(x:Int) (va:Option Addr) (vn vc:Nat) (w':World) (cnt':Nat),(Lit.int .i64 x).wf=true ->left (kI x)=true ->(∀zd,D.atKey (kI x) zd=.held (.slice va vn vc)) ->w'.ranges P k rawR b r n D (fun z=>left z && !z.sameKey (kI x)) cnt' ->cnt'<cnt ->
   w.grownBy w' (some r) ->w'.heap.size=w.heap.size ->(Instr.entry (.pointer (some ⟨r,0,none⟩))).run P w'=.ok (.tuple #[.int .i64 x,.slice va vn vc]) w' ->wpList P ops Q rest (a.put o.dst (.tuple #[.bool true,.int .i64 x,.slice va vn vc])) w'):
  wpList P ops Q (o::rest) a w:=
 wpList_next_ranges w hg it hop k K rawR (Value.int .i64) (fun p:Option Addr×Nat×Nat=> .slice p.1 p.2.1 p.2.2) (fun key kl hkey=>by obtain⟨x,rfl,_⟩:=Maps.keyOf_int_inv hk hkey;exact⟨x,rfl⟩) (fun v y hv=>by obtain⟨_,a,n,c,rfl⟩:=rawR_inv (d:=y.1) (ps:=y.2) hv;exact⟨(a,n,c),rfl⟩)
  b r n D left cnt hit h (fun _ hl=>hDone hl) (fun x p kl y w' cnt' hkey hlk hv hat hrg hlt hgr hsz hen=>by
   obtain⟨x',ex,rfl,hwx⟩:=Maps.keyOf_int_inv hk hkey;cases ex;have hd:=(rawR_inv (d:=y.1) (ps:=y.2) hv).1;exact hMore x p.1 p.2.1 p.2.2 w' cnt' hwx hlk (fun zd=>by rw [<- hd];exact hat zd) hrg hlt hgr hsz hen)
theorem sameKey_kI (x y:Int):(kI x).sameKey (kI y)=decide (x=y):=by
 rw [Bool.eq_iff_iff,WideAt.sameKey_iff (show WideAt.IsKeyLit (kI y) from trivial),decide_eq_true_iff];constructor
 ·intro h;unfold kI at h;injection h
 ·intro h;rw [h]
theorem copyM (bd bs nd ns:Nat)(Dd Ds:DataW Value)(w:World)(hd:w.ownsMap Tryz.prog 3 rawR bd nd Dd)(hs:w.ownsMap Tryz.prog 3 rawR bs ns Ds)(hne:bd≠bs)(hroom:nd+Maps.size Ds<=maxLen):
  Calls Tryz.prog 67 #[.map (some bd),.map (some bs)] w fun e w'=>e=.returned (.tuple #[])/\ (∃D,w'.ownsMap Tryz.prog 3 rawR bd (nd+Maps.size Ds) D/\ Merged D Dd Ds (fun _=>false))/\ w.grownBy w' (some bd):=by
 have hbd:=hd.lt;have hbs:=hs.lt;go_enter Tryz.func67,Tryz.ntmps67;go_wp2_with (at_range;refine wpList_range_own _ rfl _ 47 rfl 3 109 (int_keyed Tryz.underlying3) Tryz.underlying47 rawR bs ns Ds rfl hs ?_;intro w0 hrg0 hg0 hs0);go_frame;go_loopw [8] (fun _ wr=>∃(left:Lit ->Bool) (cnt:Nat) (Dout:DataW Value),wr.ranges Tryz.prog 3 rawR bs w.heap.size ns Ds left cnt/\ cnt<=Maps.size Ds/\
   wr.ownsMap Tryz.prog 3 rawR bd (nd+(Maps.size Ds - cnt)) Dout/\ Merged Dout Dd Ds left/\ w.grownBy wr (some bd))
  (fun _ wr=>wr.rangeLeft bs w.heap.size)
 case atStart=>
  exact⟨_,_,Dd,hrg0,Nat.le_refl _,(hd.kept hg0 (by simp)).mono (by omega),merged_start Dd Ds,hg0.but _⟩
 case round=>
  obtain⟨left,cnt,Dout,hrg,hcs,hout,hM,hgw⟩:=hrel;go_wp2_with (at_next;refine wpList_next_raw _ rfl _ rfl 3 (int_keyed Tryz.underlying3) Tryz.underlying3 bs w.heap.size ns _ _ _ rfl hrg ?_ ?_)
  ·intro hl0;have hM':Merged Dout Dd Ds (fun _=>false):=by
    have e:left=fun _=>false:=funext hl0;rw [<- e];exact hM
   have H:=hid (And.intro hout (And.intro hM' hgw));clear hM hM' hgw hout hrg;go_wp2;go_end0;exact⟨rfl,⟨Dout,H.out.1.mono (by omega),H.out.2.1⟩,H.out.2.2⟩
  ·intro x va vn vc w1 cnt1 hwx hlx hat hrg1 hlt hg1 hs1 hen;have hout1:=hout.kept hg1 (fun e=>by have:=Option.some.inj e;omega);have hkey:keyOf Tryz.prog 3 (.int .i64 x)=some (kI x):=keyOf_int_mk Tryz.underlying3 hwx;go_wp2_with (at_mapUpdate;refine wpList_mapUpdate_own _ rfl _ _ _ 47 rfl 3 109 (int_keyed Tryz.underlying3) Tryz.underlying47 rawR bd _ _ rfl hout1 (by omega) _ _ _ rfl rfl hkey (.held (.slice va vn vc)) [] rfl ?_;intro w2 hout2 hg2;go_frame);have hrg2:=hrg1.kept hg2 (fun e=>hne (Option.some.inj e).symm) (fun e=>by have:=Option.some.inj e;omega);go_roundw;case rel=>
    exact⟨_,cnt1,_,hrg2,by omega,hout2.mono (by omega),merged_step hM hout.isMap (show WideAt.IsKeyLit (kI x) from trivial) hat,(hgw.andThen hg1 (fun j hj=> .inl (by cases hj;exact Nat.le_refl _))).andThen hg2 (fun j hj=> .inr hj)⟩
   case measure=>rw [hrg2.left_eq,hrg.left_eq];exact hlt
end Go.Proofs.YtpfmeafmepgimaaGreat
