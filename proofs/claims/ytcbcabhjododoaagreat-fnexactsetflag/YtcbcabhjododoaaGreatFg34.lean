import Derived.Test.YtcbcabhjododoaaGreatFg33
import Derived.Maps.RangeWalk
import Derived.Lib.SlMapMerge
set_option linter.unusedVariables false
set_option linter.unusedSimpArgs false
set_option maxRecDepth 100000
set_option maxHeartbeats 40000000
namespace Go.Proofs.YtcbcabhjododoaaGreat
open Go.ChangeShapes Go.WideShapes Go.ChangeAt Go.RowKit Go.Maps Go.Sort
theorem wpList_next_raw {P : Program} (w : World) {ops : Array Oper} {rest : List Oper} {o : Oper} {a : Act} {Q : Exit → Act → World → Prop} (hg : o.guard = none) (it : Operand) (hop : o.op = Op.next it false) (k : TypeId) (K : Keyed P k) (hk : P.underlying k = some (.int .i64))
  (b r n : Nat) (D : DataW Value) (left : Lit → Bool) (cnt : Nat) (hit : a.eval it = .pointer (some ⟨r, 0, none⟩)) (h : w.ranges P k rawR b r n D left cnt)
  (hDone : (∀ kl, left kl = false) → wpList P ops Q rest (a.put o.dst (.tuple #[.bool false])) w)
  (hMore : ∀ (x : Int) (va : Option Addr) (vn vc : Nat) (w' : World) (cnt' : Nat), (Lit.int .i64 x).wf = true → left (kI x) = true → (∀ zd, D.atKey (kI x) zd = .held (.slice va vn vc)) → w'.ranges P k rawR b r n D (fun z => left z && !z.sameKey (kI x)) cnt' → cnt' < cnt →
   w.grownBy w' (some r) → w'.heap.size = w.heap.size → (Instr.entry (.pointer (some ⟨r, 0, none⟩))).run P w' = .ok (.tuple #[.int .i64 x, .slice va vn vc]) w' → wpList P ops Q rest (a.put o.dst (.tuple #[.bool true, .int .i64 x, .slice va vn vc])) w') :
  wpList P ops Q (o :: rest) a w :=
 wpList_next_ranges w hg it hop k K rawR (Value.int .i64) (fun p : Option Addr × Nat × Nat => .slice p.1 p.2.1 p.2.2) (fun key kl hkey => by obtain ⟨x, rfl, _⟩ := Maps.keyOf_int_inv hk hkey; exact ⟨x, rfl⟩) (fun v y hv => by obtain ⟨_, a, n, c, rfl⟩ := rawR_inv (d := y.1) (ps := y.2) hv; exact ⟨(a, n, c), rfl⟩)
  b r n D left cnt hit h (fun _ hl => hDone hl) (fun x p kl y w' cnt' hkey hlk hv hat hrg hlt hgr hsz hen => by
   obtain ⟨x', ex, rfl, hwx⟩ := Maps.keyOf_int_inv hk hkey
   cases ex
   have hd := (rawR_inv (d := y.1) (ps := y.2) hv).1
   exact hMore x p.1 p.2.1 p.2.2 w' cnt' hwx hlk (fun zd => by rw [← hd]; exact hat zd) hrg hlt hgr hsz hen)
theorem sameKey_kI (x y : Int) : (kI x).sameKey (kI y) = decide (x = y) := by
 rw [Bool.eq_iff_iff, WideAt.sameKey_iff (show WideAt.IsKeyLit (kI y) from trivial), decide_eq_true_iff]
 constructor
 ·intro h; unfold kI at h; injection h
 ·intro h; rw [h]
theorem copyM (bd bs nd ns : Nat) (Dd Ds : DataW Value) (w : World) (hd : w.ownsMap Tryz.prog 3 rawR bd nd Dd) (hs : w.ownsMap Tryz.prog 3 rawR bs ns Ds) (hne : bd ≠ bs) (hroom : nd + Maps.size Ds ≤ maxLen) :
  Calls Tryz.prog 112 #[.map (some bd), .map (some bs)] w fun e w' => e = .returned (.tuple #[]) ∧ (∃ D, w'.ownsMap Tryz.prog 3 rawR bd (nd + Maps.size Ds) D ∧ Merged D Dd Ds (fun _ => false)) ∧ w.grownBy w' (some bd) := by
 have hbd := hd.lt
 have hbs := hs.lt
 go_enter Tryz.func112, Tryz.ntmps112
 go_wp2_with (at_range; refine wpList_range_own _ rfl _ 66 rfl 3 132 (int_keyed Tryz.underlying3) Tryz.underlying66 rawR bs ns Ds rfl hs ?_; intro w0 hrg0 hg0 hs0)
 go_frame
 go_loopw [8] (fun _ wr => ∃ (left : Lit → Bool) (cnt : Nat) (Dout : DataW Value), wr.ranges Tryz.prog 3 rawR bs w.heap.size ns Ds left cnt ∧ cnt ≤ Maps.size Ds ∧
   wr.ownsMap Tryz.prog 3 rawR bd (nd + (Maps.size Ds - cnt)) Dout ∧ Merged Dout Dd Ds left ∧ w.grownBy wr (some bd))
  (fun _ wr => wr.rangeLeft bs w.heap.size)
 case atStart =>
  exact ⟨_, _, Dd, hrg0, Nat.le_refl _, (hd.kept hg0 (by simp)).mono (by omega), merged_start Dd Ds, hg0.but _⟩
 case round =>
  obtain ⟨left, cnt, Dout, hrg, hcs, hout, hM, hgw⟩ := hrel
  go_wp2_with (at_next; refine wpList_next_raw _ rfl _ rfl 3 (int_keyed Tryz.underlying3) Tryz.underlying3 bs w.heap.size ns _ _ _ rfl hrg ?_ ?_)
  ·intro hl0
   have hM' : Merged Dout Dd Ds (fun _ => false) := by
    have e : left = fun _ => false := funext hl0
    rw [← e]; exact hM
   have H := hid (And.intro hout (And.intro hM' hgw))
   clear hM hM' hgw hout hrg
   go_wp2
   go_end0
   exact ⟨rfl, ⟨Dout, H.out.1.mono (by omega), H.out.2.1⟩, H.out.2.2⟩
  ·intro x va vn vc w1 cnt1 hwx hlx hat hrg1 hlt hg1 hs1 hen
   have hout1 := hout.kept hg1 (fun e => by have := Option.some.inj e; omega)
   have hkey : keyOf Tryz.prog 3 (.int .i64 x) = some (kI x) := keyOf_int_mk Tryz.underlying3 hwx
   go_wp2_with (at_mapUpdate; refine wpList_mapUpdate_own _ rfl _ _ _ 66 rfl 3 132 (int_keyed Tryz.underlying3) Tryz.underlying66 rawR bd _ _ rfl hout1 (by omega) _ _ _ rfl rfl hkey (.held (.slice va vn vc)) [] rfl ?_; intro w2 hout2 hg2; go_frame)
   have hrg2 := hrg1.kept hg2 (fun e => hne (Option.some.inj e).symm) (fun e => by have := Option.some.inj e; omega)
   go_roundw
   case rel =>
    exact ⟨_, cnt1, _, hrg2, by omega, hout2.mono (by omega), merged_step hM hout.isMap (show WideAt.IsKeyLit (kI x) from trivial) hat, (hgw.andThen hg1 (fun j hj => .inl (by cases hj; exact Nat.le_refl _))).andThen hg2 (fun j hj => .inr hj)⟩
   case measure => rw [hrg2.left_eq, hrg.left_eq]; exact hlt
theorem row_iter {w : World} {B b r n c : Nat} {e : TypeId} {s : Nat} {v : Value} {m : Nat} {xs : List Value} {D : DataW Value} {left : Lit → Bool} (h : w.ownsRow B e s v m xs) (hm : w.ranges Tryz.prog 3 rawR b r n D left c) : v.ownBlock = none ∨ v.ownBlock ≠ some r := by
 obtain ⟨_, h2⟩ := h
 rcases h2 with ⟨rfl, _⟩ | ⟨g, cap, cur, rfl, _, hg, _⟩
 ·exact .inl rfl
 ·refine .inr (fun e => ?_)
  obtain ⟨es, clock, since, seen, c0, _, _, _, _, hb, _⟩ := hm
  have e : g = r := by simpa [Value.ownBlock] using e
  rw [e, hb] at hg
  cases hg
theorem In_ne {l : List (Int × Int)} {x : Int} (h : In l x) : l ≠ [] := fun e => by rw [e] at h; exact In_nil h
theorem Srt.inh {l : List (Int × Int)} (h : Srt l) (hne : l ≠ []) : ∃ x, In l x := by
 cases l with
 | nil => exact absurd rfl hne
 | cons p t => exact ⟨p.1, p, List.mem_cons_self, Int.le_refl _, (h.2 p List.mem_cons_self).2.1⟩
structure UInv (La Lb L : Int → List (Int × Int)) (left : Int → Bool) : Prop where
 s : ∀ r, Srt (L r)
 done : ∀ r, left r = false → ∀ x, In (L r) x ↔ (In (La r) x ∨ In (Lb r) x)
 todo : ∀ r, left r = true → L r = La r
 len : ∀ r, (L r).length ≤ (La r).length + (Lb r).length
theorem unionM2 {w : World} {ba na bb nb : Nat} {Da Db : DataW Value} {Ga Gb : Int → Value} {La Lb : Int → List (Int × Int)} (ha : GrpAt w ba na Da Ga La) (hb : GrpAt w bb nb Db Gb Lb)
  (hsa : ∀ r, Srt (La r)) (hsb : ∀ r, Srt (Lb r)) (hla : ∀ r, (La r).length ≤ 2000) (hlb : ∀ r, (Lb r).length ≤ 2000) (hza : Maps.size Da ≤ 2000) (hzb : Maps.size Db ≤ 2000) :
  Calls Tryz.prog 94 #[.map (some ba), .map (some bb)] w fun e w' => ∃ bd n D G L, e = .returned (.map (some bd)) ∧ n ≤ 4000 ∧ GrpR w' bd n D G L ∧ UInv La Lb L (fun _ => false) ∧ Below w.heap.size w w' := by
 have hba := ha.own.lt
 have hbb := hb.own.lt
 have HA := hid ha
 have HBG := hid hb
 have HSA := hid hsa
 have HSB := hid hsb
 have HLA := hid hla
 have HLB := hid hlb
 have hmm := @run_makeMap Tryz.prog
 clear ha hb hsa hsb hla hlb
 obtain ⟨W1, hW1⟩ : ∃ W1, w.alloc (.map #[] 0) = W1 := ⟨_, rfl⟩
 have HB1 : Hid (Below w.heap.size w W1) := by rw [← hW1]; exact hid ((Below.refl _ _).alloc (Nat.le_refl _) _)
 have HM1 : Hid (W1.ownsMap Tryz.prog 3 rawR w.heap.size 0 (.map [])) := by rw [← hW1]; exact hid (World.ownsMap_made w _ _ _)
 have HZ1 : Hid (W1.heap.size = w.heap.size + 1) := by rw [← hW1]; exact hid (by simp)
 go_enter Tryz.func94, Tryz.ntmps94
 go_wp2_with fail
 try rw [hW1]
 refine (copyM w.heap.size ba 0 na (.map []) Da W1 HM1.out (HA.out.below HB1.out).own (by omega) (by unfold maxLen; omega)).mono ?_
 rintro e w2 ⟨rfl, ⟨D2, hD2, hM2⟩, hg2⟩
 have B2 : Below w.heap.size w w2 := HB1.out.grown hg2 (by have := HZ1.out; omega) (fun k hk => by injection hk with hk; omega)
 have hown := (HBG.out.below B2).own
 have z2 : w.heap.size < w2.heap.size := by have := hg2.size; have := HZ1.out; omega
 have HU0 : Hid (UInv La Lb La (fun r => Maps.has Db (kI r))) := by
  refine hid ⟨HSA.out, fun r hr x => ?_, fun _ _ => rfl, fun r => by omega⟩
  have hr : Maps.has Db (kI r) = false := hr
  rw [HBG.out.has' r] at hr
  have : Lb r = [] := by simpa using hr
  rw [this]; simp [In]
 have HAT : Hid (∀ r, D2.atKey (kI r) (.held (.slice none 0 0)) = .held (Ga r)) := by
  refine hid (fun r => ?_)
  rw [hM2.2, ← HA.out.at' r]
  cases e : Maps.has Da (kI r) with
  | true => rfl
  | false =>
   rw [atKey_of_not_has e]
   rfl
 have HHS : Hid (∀ r, Maps.has D2 (kI r) = !(La r).isEmpty) := by
  refine hid (fun r => ?_)
  rw [hM2.1, HA.out.has' r]
  have : Maps.has (.map [] : DataW Value) (kI r) = false := rfl
  rw [this]; simp
 have HD2 := hid hD2
 have HB2 := hid B2
 clear hD2 hM2 hg2 HM1 hW1 hmm
 go_wp2_with (at_range; refine wpList_range_own _ rfl _ 66 rfl 3 132 (int_keyed Tryz.underlying3) Tryz.underlying66 rawR bb nb Db rfl hown ?_; intro w0 hrg0 hg0 hs0)
 go_frame
 have b0 : Below w.heap.size w w0 := HB2.out.grown hg0 (by omega) (fun _ h => by cases h)
 go_loopw [6] (fun _ wr => ∃ (left : Lit → Bool) (cnt : Nat) (Dx : DataW Value) (Gx : Int → Value) (Lx : Int → List (Int × Int)), wr.ranges Tryz.prog 3 rawR bb w2.heap.size nb Db left cnt ∧ cnt ≤ Maps.size Db ∧ Hid (GrpR wr w.heap.size (Maps.size Da + (Maps.size Db - cnt)) Dx Gx Lx) ∧ Hid (UInv La Lb Lx (fun r => left (kI r))) ∧ Hid (Below w.heap.size w wr))
  (fun _ wr => wr.rangeLeft bb w2.heap.size)
 case atStart =>
  refine ⟨_, _, D2, Ga, La, hrg0, Nat.le_refl _, hid ⟨(HD2.out.kept hg0 (by simp)).mono (by omega), HAT.out, HHS.out, fun r => row_zero (((HA.out.below HB2.out).rows r).kept hg0 ?_)⟩, HU0, hid b0⟩
  cases e : (Ga r).ownBlock with
  | none => exact .inl rfl
  | some g => exact .inr (by simp)
 case round =>
  clear hrg0 hg0 hs0 b0 hown HU0 HAT HHS HD2 HB2
  obtain ⟨left, cnt, Dx, Gx, Lx, hrg, hcs, hgx, hux, hbel⟩ := hrel
  go_wp2_with (at_next; refine wpList_next_raw _ rfl _ rfl 3 (int_keyed Tryz.underlying3) Tryz.underlying3 bb w2.heap.size nb _ _ _ rfl hrg ?_ ?_)
  ·intro hl0
   have HU : Hid (UInv La Lb Lx (fun _ => false)) := by
    have e : (fun r => left (kI r)) = fun _ => false := funext fun r => hl0 (kI r)
    have := hux.out
    rw [e] at this
    exact hid this
   clear hl0 hrg
   go_wp2_with fail
   go_ret
   exact ⟨w.heap.size, _, Dx, Gx, Lx, rfl, by omega, hgx.out, HU.out, hbel.out⟩
  ·intro x va vn vc w1 cnt1 hwx hlx hat hrg1 hlt hg1 hs1 hen
   have hG : Gb x = .slice va vn vc := by
    have h1 := HBG.out.at' x
    rw [hat] at h1
    injection h1 with h1
    exact h1.symm
   have hLb : Lb x ≠ [] := by
    have h1 := has_true_of_atKey hat
    rw [HBG.out.has' x] at h1
    intro e; rw [e] at h1; cases h1
   have B1 : Below w.heap.size w w1 := hbel.out.grown hg1 hbel.out.size (fun k hk => by injection hk with hk; omega)
   have hrb := (HBG.out.below B1).rows x
   have hra := (HA.out.below B1).rows x
   have hlk := (HA.out.below B1).look x hwx
   obtain ⟨xb, cb, e1, ssb, hcb1, hcb2⟩ := row_slice hrb
   obtain ⟨xa, ca, e2, ssa, hca1, hca2⟩ := row_slice hra
   rw [hG] at e1
   injection e1 with e1 e3 e4
   subst e1 e3 e4
   rw [e2] at hlk
   have g1 : GrpR w1 w.heap.size (Maps.size Da + (Maps.size Db - cnt)) Dx Gx Lx := ⟨hgx.out.own.kept hg1 (fun e => by injection e with e; omega), hgx.out.at', hgx.out.has', fun r => (hgx.out.rows r).kept hg1 (row_iter (hgx.out.rows r) hrg)⟩
   have HC := hid (mergeSpans xa ca va vc (La x) (Lb x) w1 ssa ssb hca1 hca2 hcb1 hcb2 (HSA.out x) (HSB.out x) (HLA.out x) (HLB.out x))
   have HG1 := hid g1
   have HB1 := hid B1
   have HRG1 := hid hrg1
   have HLE := hid hrg.left_eq
   have HLX := hid hlx
   have HNE := hid hLb
   have zz1 := B1.size
   clear hrg hG hat hlx hg1 hs1 hrb hra e2 ssa ssb g1 B1 hrg1 hLb
   go_wp2_with fail
   refine HC.out.mono ?_
   rintro e w3 ⟨v, l, rfl, hsr, hb3, hs3, hin3, hl3⟩
   have hrg3 := HRG1.out.kept (row := none) ⟨hb3.os, hb3.tape, hb3.output, hb3.size, fun k hk _ => hb3.block k hk⟩ (by simp) (by simp)
   have hkey : keyOf Tryz.prog 3 (.int .i64 x) = some (kI x) := keyOf_int_mk Tryz.underlying3 hwx
   have hrv : rawR v = some (.held v, []) := rawR_own hsr
   have hm3 : w3.ownsMap Tryz.prog 3 rawR w.heap.size (Maps.size Da + (Maps.size Db - cnt)) Dx := HG1.out.own.kept (row := none) ⟨hb3.os, hb3.tape, hb3.output, hb3.size, fun k hk _ => hb3.block k hk⟩ (by simp)
   have HR3 : Hid (∀ r, w3.ownsRow 0 135 2 (Gx r) (Lx r).length (spanCells (Lx r))) := hid fun r => row_below (HG1.out.rows r) hb3
   have HV3 : Hid (w3.ownsRow 0 135 2 v l.length (spanCells l)) := hid (row_zero hsr)
   have HB3 := hid (keepS HB1.out hb3)
   have HS3 := hid (And.intro hs3 (And.intro hin3 hl3))
   have HRG3 := hid hrg3
   clear hsr hb3 hs3 hin3 hl3 hrg3 HB1 HC hlk HRG1
   go_wp2_with (at_mapUpdate; refine wpList_mapUpdate_own _ rfl _ _ _ 66 rfl 3 132 (int_keyed Tryz.underlying3) Tryz.underlying66 rawR w.heap.size _ _ rfl hm3 (by unfold maxLen; omega) _ _ _ rfl rfl hkey (.held v) [] hrv ?_; intro w4 hm4 hg4; go_frame)
   have hrg4 := HRG3.out.kept hg4 (fun e => by injection e with e; omega) (fun e => by injection e with e; omega)
   have hlne : l ≠ [] := by
    obtain ⟨y, hy⟩ := (HSB.out x).inh HNE.out
    exact In_ne ((HS3.out.2.1 y).2 (.inr hy))
   go_roundw
   case rel =>
    refine ⟨_, cnt1, _, upd Gx x v, upd Lx x l, hrg4, by omega, hid ⟨hm4.mono (by omega), fun r => ?_, fun r => ?_, fun r => ?_⟩, hid ⟨fun r => ?_, fun r hr => ?_, fun r hr => ?_, fun r => ?_⟩, hid (HB3.out.grown hg4 (by have := HB3.out.size; omega) (fun k hk => by injection hk with hk; omega))⟩
    ·by_cases e : r = x
     ·subst e; rw [upd_same, atKey_put_same HG1.out.own.isMap (show WideAt.IsKeyLit (kI r) from trivial)]
     ·rw [upd_other Gx v e, atKey_put_other (kI_ne e)]; exact HG1.out.at' r
    ·by_cases e : r = x
     ·subst e; rw [upd_same, has_put_same HG1.out.own.isMap (show WideAt.IsKeyLit (kI r) from trivial)]
      cases l with
      | nil => exact absurd rfl hlne
      | cons _ _ => rfl
     ·rw [upd_other Lx l e, has_put_other (kI_ne e)]; exact HG1.out.has' r
    ·by_cases e : r = x
     ·subst e; rw [upd_same, upd_same]; exact HV3.out.kept hg4 (row_map HV3.out hm3)
     ·rw [upd_other Gx v e, upd_other Lx l e]; exact (HR3.out r).kept hg4 (row_map (HR3.out r) hm3)
    ·by_cases e : r = x
     ·subst e; rw [upd_same]; exact HS3.out.1
     ·rw [upd_other Lx l e]; exact hux.out.s r
    ·by_cases e : r = x
     ·subst e; rw [upd_same]; exact HS3.out.2.1
     ·rw [upd_other Lx l e]; exact hux.out.done r (by rw [sameKey_kI] at hr; simpa [e] using hr)
    ·by_cases e : r = x
     ·subst e; rw [sameKey_kI] at hr; simp at hr
     ·rw [upd_other Lx l e]; exact hux.out.todo r (by rw [sameKey_kI] at hr; simpa [e] using hr)
    ·by_cases e : r = x
     ·subst e; rw [upd_same]; exact HS3.out.2.2
     ·rw [upd_other Lx l e]; exact hux.out.len r
   case measure => rw [hrg4.left_eq, HLE.out]; exact hlt
def SK (f : Int → Nat) : Nat → Nat
 | 0 => 0
 | k + 1 => SK f k + f (k : Int)
theorem SK_zero {f : Int → Nat} (h : ∀ r, f r = 0) : ∀ k, SK f k = 0
 | 0 => rfl
 | k + 1 => by simp only [SK]; rw [SK_zero h k, h]
theorem SK_same {f f' : Int → Nat} {x : Int} (ho : ∀ r, r ≠ x → f' r = f r) : ∀ k : Nat, ((k : Int) ≤ x ∨ x < 0) → SK f' k = SK f k
 | 0, _ => rfl
 | k + 1, h => by simp only [SK]; rw [SK_same ho k (by omega), ho k (by omega)]
theorem SK_upd {f f' : Int → Nat} {x : Int} (ho : ∀ r, r ≠ x → f' r = f r) (h0 : 0 ≤ x) : ∀ k : Nat, x < k → SK f' k + f x = SK f k + f' x
 | 0, h => by omega
 | k + 1, h => by
  simp only [SK]
  by_cases e : x = (k : Int)
  ·rw [SK_same ho k (by omega), ← e]; omega
  ·have := SK_upd ho h0 k (by omega)
   rw [ho k (fun h => e h.symm)]; omega
theorem SK_const {f : Int → Nat} {c : Nat} (h : ∀ r, f r ≤ c) : ∀ k, SK f k ≤ c * k
 | 0 => Nat.le_refl _
 | k + 1 => by have := SK_const h k; have := h (k : Int); simp only [SK]; rw [Nat.mul_succ]; omega
theorem outF_len (L : Int → List (Int × Int)) : ∀ k, (outF L k).length = SK (fun r => (L r).length) k
 | 0 => rfl
 | k + 1 => by
  by_cases e : (L (k : Int)).isEmpty = true
  ·rw [outF_succ_n e, outF_len L k]
   have : L (k : Int) = [] := by simpa using e
   simp [SK, this]
  ·rw [outF_succ_y (by simpa using e), List.length_append, outF_len L k]
   simp [SK, tag]
theorem countM2 {w : World} {bm n : Nat} {D : DataW Value} {G : Int → Value} {L : Int → List (Int × Int)} (h : GrpR w bm n D G L) (hL : ∀ r, L r ≠ [] → 0 ≤ r ∧ r < 8) (hl : ∀ r, (L r).length ≤ 4000) :
  Calls Tryz.prog 96 #[.map (some bm)] w fun e w' => e = .returned (.int .i64 (((outF L 8).length : Nat) : Int)) ∧ Below w.heap.size w w' := by
 have hbm := h.own.lt
 have hown := h.own
 have HG := hid h
 have HL := hid hL
 have HLL := hid hl
 have HLN := hid (outF_len L 8)
 clear h hL hl
 obtain ⟨tot, htot⟩ : ∃ t, (outF L 8).length = t := ⟨_, rfl⟩
 rw [htot] at HLN ⊢
 clear htot
 go_enter Tryz.func96, Tryz.ntmps96
 go_wp2_with (at_range; refine wpList_range_own _ rfl _ 66 rfl 3 132 (int_keyed Tryz.underlying3) Tryz.underlying66 rawR bm n D rfl hown ?_; intro w0 hrg0 hg0 hs0)
 go_frame
 have b0 : Below w.heap.size w w0 := (Below.refl _ _).grown hg0 (Nat.le_refl _) (fun _ h => by cases h)
 go_loopw [3] (fun v wr => ∃ (left : Lit → Bool) (cnt acc : Nat), v = .int .i64 (acc : Int) ∧ wr.ranges Tryz.prog 3 rawR bm w.heap.size n D left cnt ∧ Hid (acc = SK (fun r => if left (kI r) then 0 else (L r).length) 8) ∧ Hid (Below w.heap.size w wr))
  (fun _ wr => wr.rangeLeft bm w.heap.size)
 case atStart =>
  refine ⟨_, _, 0, rfl, hrg0, hid ?_, hid b0⟩
  rw [SK_zero (fun r => ?_)]
  cases e : Maps.has D (kI r) with
  | true => rfl
  | false =>
   rw [HG.out.has' r] at e
   have : L r = [] := by simpa using e
   simp [this]
 case round =>
  clear hrg0 hg0 hs0 b0 hown
  obtain ⟨left, cnt, acc, rfl, hrg, hacc, hbel⟩ := hrel
  have hal : acc ≤ 32000 := by
   rw [hacc.out]
   have := SK_const (f := fun r => if left (kI r) then 0 else (L r).length) (c := 4000) (fun r => by have := HLL.out r; show (if _ then _ else _) ≤ _; split <;> omega) 8
   omega
  go_wp2_with (at_next; refine wpList_next_raw _ rfl _ rfl 3 (int_keyed Tryz.underlying3) Tryz.underlying3 bm w.heap.size n _ _ _ rfl hrg ?_ ?_)
  ·intro hl0
   have HE : Hid (acc = tot) := by
    have h1 := hacc.out
    rw [show (fun r => if left (kI r) then 0 else (L r).length) = fun r => (L r).length from funext fun r => by rw [hl0 (kI r)]; rfl] at h1
    exact hid (h1.trans HLN.out.symm)
   clear hl0 hrg
   go_wp2_with fail
   go_ret
   exact ⟨ret_int (by rw [HE.out]), hbel.out⟩
  ·intro x va vn vc w1 cnt1 hwx hlx hat hrg1 hlt hg1 hs1 hen
   have hG : G x = .slice va vn vc := by
    have h1 := HG.out.at' x
    rw [hat] at h1
    injection h1 with h1
    exact h1.symm
   obtain ⟨a', c', e', _⟩ := row_slice (HG.out.rows x)
   rw [hG] at e'
   injection e' with ea en ec
   subst ea ec
   have hx : 0 ≤ x ∧ x < 8 := by
    have h1 := has_true_of_atKey hat
    rw [HG.out.has' x] at h1
    exact HL.out x (fun e => by rw [e] at h1; cases h1)
   have hvl : vn ≤ 4000 := by rw [en]; exact HLL.out x
   have HSUM : Hid (acc + vn = SK (fun r => if (left (kI r) && !(kI r).sameKey (kI x)) then 0 else (L r).length) 8) := by
    obtain ⟨F0, hF0⟩ : ∃ F0 : Int → Nat, F0 = fun r => if left (kI r) then 0 else (L r).length := ⟨_, rfl⟩
    obtain ⟨F1, hF1⟩ : ∃ F1 : Int → Nat, F1 = fun r => if (left (kI r) && !(kI r).sameKey (kI x)) then 0 else (L r).length := ⟨_, rfl⟩
    have h1 := SK_upd (f := F0) (f' := F1) (x := x) (fun r hr => by rw [hF0, hF1]; show (if _ then _ else _) = (if _ then _ else _); rw [sameKey_kI]; simp [hr]) hx.1 8 hx.2
    have h2 : F0 x = 0 := by rw [hF0]; show (if _ then _ else _) = _; rw [hlx]; rfl
    have h3 : F1 x = (L x).length := by rw [hF1]; show (if _ then _ else _) = _; rw [sameKey_kI]; simp
    have h4 := hacc.out
    rw [← hF0] at h4
    rw [← hF1]
    exact hid (by omega)
   have B1 : Hid (Below w.heap.size w w1) := hid (hbel.out.grown hg1 hbel.out.size (fun k hk => by injection hk with hk; omega))
   have HLE := hid hrg.left_eq
   have HR1 := hid hrg1
   have HLT := hid hlt
   clear hrg hg1 hs1 hat hG en hlx hrg1 hlt
   go_wp2_with fail
   go_roundw
   case rel => exact ⟨_, cnt1, acc + vn, by go_num, HR1.out, HSUM, B1⟩
   case measure => rw [HR1.out.left_eq, HLE.out]; exact HLT.out
end Go.Proofs.YtcbcabhjododoaaGreat
