import Derived.Test.YtbimcammjohaoadGreatDoorMg06
import Derived.Maps.RangeWalk
namespace Go.Proofs.YtbimcammjohaoadGreatDoor
open Go.ChangeShapes Go.WideShapes Go.ChangeAt Go.RowKit Go.Maps
set_option linter.unusedVariables false
set_option linter.unusedSimpArgs false

theorem wpList_next_raw {P : Program} (w : World) {ops : Array Oper} {rest : List Oper} {o : Oper} {a : Act} {Q : Exit → Act → World → Prop} (hg : o.guard = none) (it : Operand) (hop : o.op = Op.next it false) (k : TypeId) (K : Keyed P k) (hk : P.underlying k = some (.int .i64))
    (b r n : Nat) (D : DataW Value) (left : Lit → Bool) (cnt : Nat) (hit : a.eval it = .pointer (some ⟨r, 0, none⟩)) (h : w.ranges P k rawR b r n D left cnt)
    (hDone : (∀ kl, left kl = false) → wpList P ops Q rest (a.put o.dst (.tuple #[.bool false])) w)
    (hMore : ∀ (x : Int) (va : Option Addr) (vn vc : Nat) (w' : World) (cnt' : Nat), (Lit.int .i64 x).wf = true → left (kI x) = true → (∀ zd, D.atKey (kI x) zd = .held (.slice va vn vc)) → w'.ranges P k rawR b r n D (fun z => left z && !z.sameKey (kI x)) cnt' → cnt' < cnt →
      w.grownBy w' (some r) → w'.heap.size = w.heap.size → (Instr.entry (.pointer (some ⟨r, 0, none⟩))).run P w' = .ok (.tuple #[.int .i64 x, .slice va vn vc]) w' → wpList P ops Q rest (a.put o.dst (.tuple #[.bool true, .int .i64 x, .slice va vn vc])) w') :
    wpList P ops Q (o :: rest) a w :=
  wpList_next_ranges w hg it hop k K rawR (Value.int .i64) (fun p : Option Addr × Nat × Nat => .slice p.1 p.2.1 p.2.2) (fun key kl hkey => by obtain ⟨x, rfl, _⟩ := Maps.keyOf_int_inv hk hkey; exact ⟨x, rfl⟩) (fun v y hv => by obtain ⟨_, a, n, c, rfl⟩ := rawR_inv (d := y.1) (ps := y.2) hv; exact ⟨(a, n, c), rfl⟩)
    b r n D left cnt hit h (fun _ hl => hDone hl) (fun x p kl y w' cnt' hkey hlk hv hat hrg hlt hgr hsz hen => by
      obtain ⟨x', ex, rfl, hwx⟩ := Maps.keyOf_int_inv hk hkey
      cases ex
      have hd := (rawR_inv (d := y.1) (ps := y.2) hv).1
      exact hMore x p.1 p.2.1 p.2.2 w' cnt' hwx hlk (fun zd => by rw [← hd]; exact hat zd) hrg hlt hgr hsz hen)

theorem sameKey_kI (x y : Int) : (kI x).sameKey (kI y) = decide (x = y) := by
  rw [Bool.eq_iff_iff, WideAt.sameKey_iff (show WideAt.IsKeyLit (kI y) from trivial), decide_eq_true_iff]
  constructor
  · intro h; unfold kI at h; injection h
  · intro h; rw [h]

def allIn (La Lb : Int → List (Int × Int)) (r : Int) : Bool := (Lb r).all fun p => inB (La r) p.1 p.2

theorem GrpAt.grown {w w1 : World} {bm n rr : Nat} {D : DataW Value} {G : Int → Value} {L : Int → List (Int × Int)} (h : GrpAt w bm n D G L) (hg : w.grownBy w1 (some rr)) (hr : bm ≠ rr) (hro : ∀ r g, (G r).ownBlock = some g → g ≠ rr) : GrpAt w1 bm n D G L :=
  ⟨h.own.kept hg (fun e => hr (by injection e)), h.at', h.has', fun r => (h.rows r).kept hg (by
    cases e : (G r).ownBlock with
    | none => exact .inl rfl
    | some g => exact .inr (fun e2 => hro r g e (by injection e2))), h.apart⟩
end Go.Proofs.YtbimcammjohaoadGreatDoor

namespace Go.Proofs.YtbimcammjohaoadGreatDoor
open Go.ChangeShapes Go.WideShapes Go.ChangeAt Go.RowKit Go.Maps
set_option linter.unusedVariables false
set_option linter.unusedSimpArgs false

theorem grp_slice {w : World} {bm n : Nat} {D : DataW Value} {G : Int → Value} {L : Int → List (Int × Int)} (h : GrpAt w bm n D G L) (r : Int) :
    ∃ a c, G r = .slice a (L r).length c ∧ SS w a (L r).length (fun i => ((L r).getD i (0, 0)).1) (fun i => ((L r).getD i (0, 0)).2) ∧ ∀ g, a = some g → bm < g.block := by
  have hrow := h.rows r
  rcases hrow.2 with ⟨e, e0⟩ | ⟨g, cap, cur, e, hb, _⟩
  · exact ⟨none, 0, by rw [e, e0], .inl e0, fun g hg => by cases hg⟩
  · exact ⟨_, cap, e, by rw [e] at hrow; exact ss_own hrow rfl, fun g' hg => by injection hg with hg; subst hg; exact hb⟩

theorem SS.below {w w1 : World} {a : Option Addr} {n : Nat} {f t : Nat → Int} (h : SS w a n f t) (hb : Below w.heap.size w w1) : SS w1 a n f t := by
  rcases h with h | ⟨b, off, rfl, hlt, hc⟩
  · exact .inl h
  · exact .inr ⟨b, off, rfl, Nat.lt_of_lt_of_le hlt hb.size, fun i hi => ⟨(hb.cell (p := ⟨b, _, none⟩) hlt).trans (hc i hi).1, (hb.cell (p := ⟨b, _, none⟩) hlt).trans (hc i hi).2⟩⟩

theorem below_grown {w w1 : World} (h : Below w.heap.size w w1) : w.grownBy w1 none := ⟨h.os, h.tape, h.output, h.size, fun k hk _ => h.block k hk⟩

theorem all_take (l : List (Int × Int)) (P : Int × Int → Bool) (j : Nat) (h : j < l.length) : (l.take (j + 1)).all P = ((l.take j).all P && P (l.getD j (0, 0))) := by
  rw [List.take_succ_eq_append_getElem h, List.all_append]
  simp [List.getD, h]

set_option maxRecDepth 100000 in
set_option maxHeartbeats 2000000 in
theorem holdsAll {w : World} {ba na bb nb : Nat} {Da Db : DataW Value} {Ga Gb : Int → Value} {La Lb : Int → List (Int × Int)} (ha : GrpAt w ba na Da Ga La) (hb : GrpAt w bb nb Db Gb Lb)
    (hs : ∀ r, Srt (La r)) (hla : ∀ r, (La r).length ≤ 1000000) (hlb : ∀ r, (Lb r).length ≤ 1000000) :
    Calls Tryz.prog 24 #[.map (some ba), .map (some bb)] w fun e w' => ∃ acc : Bool, e = .returned (.bool acc) ∧ (acc = true ↔ ∀ x, allIn La Lb x = true) ∧ Below w.heap.size w w' := by
  have hbb := hb.own.lt
  have HA := hid ha
  have HBG := hid hb
  have HS := hid hs
  have HLA := hid hla
  have HLB := hid hlb
  have hown := hb.own
  clear ha hb hs hla hlb
  go_enter Tryz.func24, Tryz.ntmps24
  go_wp2_with (at_range; refine wpList_range_own _ rfl _ 49 rfl 3 71 (int_keyed Tryz.underlying3) Tryz.underlying49 rawR bb nb Db rfl hown ?_; intro w0 hrg0 hg0 hs0)
  go_frame
  have b0 : Below w.heap.size w w0 := (Below.refl _ _).grown hg0 (Nat.le_refl _) (fun _ h => by cases h)
  go_loopw [5] (fun v wr => ∃ (left : Lit → Bool) (cnt : Nat) (acc : Bool), v = .bool acc ∧ wr.ranges Tryz.prog 3 rawR bb w.heap.size nb Db left cnt ∧ Below w.heap.size w wr ∧ (acc = true ↔ ∀ x, left (kI x) = false → allIn La Lb x = true))
    (fun _ wr => wr.rangeLeft bb w.heap.size)
  case atStart =>
    refine ⟨_, _, true, rfl, hrg0, b0, ⟨fun _ x hx => ?_, fun _ => rfl⟩⟩
    rw [HBG.out.has' x] at hx
    have : Lb x = [] := by simpa using hx
    unfold allIn; rw [this]; rfl
  case round =>
    clear hrg0 hg0 hs0 b0 hown
    obtain ⟨left, cnt, acc, rfl, hrg, hbel, hacc⟩ := hrel
    have HBel := hid hbel
    have HAcc := hid hacc
    clear hbel hacc
    go_wp2_with (at_next; refine wpList_next_raw _ rfl _ rfl 3 (int_keyed Tryz.underlying3) Tryz.underlying3 bb w.heap.size nb _ _ _ rfl hrg ?_ ?_)
    · intro hl0
      have HL := hid hl0
      clear hl0 hrg
      go_wp2_with fail
      go_ret
      exact ⟨acc, rfl, ⟨fun h x => HAcc.out.1 h x (HL.out _), fun h => HAcc.out.2 fun x _ => h x⟩, HBel.out⟩
    · intro x va vn vc w1 cnt1 hwx hlx hat hrg1 hlt hg1 hs1 hen
      have hG : Gb x = .slice va vn vc := by
        have h1 := HBG.out.at' x
        rw [hat] at h1
        injection h1 with h1
        exact h1.symm
      obtain ⟨a', c', e', hss, hbk⟩ := grp_slice HBG.out x
      rw [hG] at e'
      injection e' with ea en ec
      subst ea ec en
      have B1 : Below w.heap.size w w1 := HBel.out.grown hg1 HBel.out.size (fun k hk => by injection hk with hk; omega)
      have hlen := HLB.out x
      have HSS := hid hss
      have HB1 := hid B1
      have HLT := hid hlt
      have HLE := hid hrg.left_eq
      have HX := hid hlx
      have hrg1' := hid hrg1
      clear hrg hg1 hs1 hat hG hss hbk B1 hlt hlx hrg1
      go_wp2_with fail
      generalize hmm : (Lb x).length = m at *
      have HM := hid hmm
      clear hmm
      go_loopw [5, 19] (fun v i wi => ∃ (j : Nat) (acc' : Bool), j ≤ m ∧ i = .int .i64 j ∧ v = .bool acc' ∧ acc' = (acc && ((Lb x).take j).all fun p => inB (La x) p.1 p.2) ∧ wi.ranges Tryz.prog 3 rawR bb w.heap.size nb Db (fun z => left z && !z.sameKey (kI x)) cnt1 ∧ Below w.heap.size w wi)
        (fun _ i _ => m - (intOf i).toNat)
      case atStart => exact ⟨0, acc, Nat.zero_le _, rfl, rfl, by simp, hrg1'.out, HB1.out⟩
      case round =>
        obtain ⟨j, acc', hj, rfl, rfl, hac, hrgi, hbi⟩ := hrel
        have HAC := hid hac
        have HRI := hid hrgi
        have HBI := hid hbi
        clear hac hrgi hbi hen
        by_cases hjm : j < m
        · have hstep := all_take (Lb x) (fun p => inB (La x) p.1 p.2) j (by have := HM.out; omega)
          have HST := hid hstep
          clear hstep
          have hcell : ∃ g off, va = some ⟨g, off, none⟩ ∧ g < w.heap.size ∧ wr.cell? ⟨g, off + j * 2, none⟩ = some (.int .i64 ((Lb x).getD j (0, 0)).1) ∧ wr.cell? ⟨g, off + j * 2 + 1, none⟩ = some (.int .i64 ((Lb x).getD j (0, 0)).2) := by
            rcases HSS.out with h | ⟨g, off, rfl, hg, hc⟩
            · omega
            · exact ⟨g, off, rfl, hg, (HBI.out.cell (p := ⟨g, off + j * 2, none⟩) hg).trans (hc j hjm).1, (HBI.out.cell (p := ⟨g, off + j * 2 + 1, none⟩) hg).trans (hc j hjm).2⟩
          obtain ⟨g, off, rfl, hg, c0, c1⟩ := hcell
          generalize hpp : (Lb x).getD j (0, 0) = pp at *
          obtain ⟨pf, pt⟩ := pp
          have HP := hid hpp
          clear hpp
          obtain ⟨W2, hW2⟩ : ∃ W2, wr.alloc (.cells #[.int .i64 pf, .int .i64 pt] 73) = W2 := ⟨_, rfl⟩
          have b2 : Below wr.heap.size wr W2 := by rw [← hW2]; exact (Below.refl _ _).alloc (Nat.le_refl _) _
          have d0 : W2.cell? ⟨wr.heap.size, 0, none⟩ = some (.int .i64 pf) := by rw [← hW2]; simp
          have d1 : W2.cell? ⟨wr.heap.size, 1, none⟩ = some (.int .i64 pt) := by rw [← hW2]; simp
          have B2 := HBI.out.trans (b2.mono HBI.out.size)
          have HC := hid (holdsM (HA.out.below B2) x pf pt hwx (HS.out x) (HLA.out x))
          have HB2 := hid B2
          have Hb2 := hid b2
          clear B2 b2
          cases acc' with
          | false =>
            go_wp2_with fail
            try rw [hW2]
            clear hW2 d0 d1
            go_roundw
            case rel => exact ⟨j + 1, false, hjm, by go_num, rfl, by rw [HST.out, ← Bool.and_assoc, ← HAC.out]; rfl, HRI.out.kept (below_grown Hb2.out) (by simp) (by simp), HB2.out⟩
            case measure => simp [intOf]; omega
          | true =>
            go_wp2_with fail
            try rw [hW2]
            clear hW2 d0 d1
            refine HC.out.mono ?_
            rintro e w3 ⟨rfl, b3⟩
            have HB3 := hid (keepS HB2.out b3)
            have HR3 := hid ((HRI.out.kept (below_grown Hb2.out) (by simp) (by simp)).kept (below_grown b3) (by simp) (by simp))
            clear b3
            go_wp2_with fail
            go_roundw
            case rel => exact ⟨j + 1, _, hjm, by go_num, rfl, by rw [HST.out, ← Bool.and_assoc, ← HAC.out]; rfl, HR3.out, HB3.out⟩
            case measure => simp [intOf]; omega
        · obtain rfl : j = m := by omega
          go_wp2_with fail
          go_roundw
          case rel =>
            refine ⟨_, cnt1, acc', rfl, HRI.out, HBI.out, ?_⟩
            have hall : acc' = (acc && allIn La Lb x) := by
              rw [HAC.out]; unfold allIn
              rw [List.take_of_length_le (by have := HM.out; omega)]
            rw [hall, Bool.and_eq_true, HAcc.out]
            constructor
            · rintro ⟨h1, h2⟩ y hy
              by_cases e : y = x
              · subst e; exact h2
              · refine h1 y ?_
                rw [sameKey_kI] at hy
                simpa [e] using hy
            · intro h
              refine ⟨fun y hy => h y (by rw [hy]; rfl), h x (by rw [sameKey_kI]; simp)⟩
          case measure => rw [HRI.out.left_eq, HLE.out]; exact HLT.out
end Go.Proofs.YtbimcammjohaoadGreatDoor
