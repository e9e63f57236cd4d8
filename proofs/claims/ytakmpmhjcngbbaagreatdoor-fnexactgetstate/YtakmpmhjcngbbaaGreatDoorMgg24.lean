import Derived.Test.YtakmpmhjcngbbaaGreatDoorMgg23
import Derived.RegionTactic
import Derived.ChangeAlike
set_option linter.unusedVariables false
set_option linter.unusedSimpArgs false
set_option maxRecDepth 100000
set_option maxHeartbeats 40000000
namespace Go.Proofs.YtakmpmhjcngbbaaGreatDoor
open Go.ChangeShapes Go.WideShapes Go.ChangeAt Go.RowKit Go.Maps
def exT (kb ub : Nat) (i : Nat) : Option Value := if i = 2 then some (.map (some kb)) else if i = 3 then some (.map (some ub)) else none
def UsP (Kb : Bool) (ub : Nat) (acc : List Lf) (z : Lf) (w : World) (e : Ending) (w' : World) : Prop :=
  (Kb = true ∧ (∀ y ∈ acc, ¬ (y.r = z.r ∧ y.q = z.q)) ∧ acc.length ≠ 1000 ∧ e = .returned .nilIface ∧ UsM w' ub (acc ++ [z]) ∧ w.grownBy w' (some ub)) ∨
  (¬ (Kb = true ∧ (∀ y ∈ acc, ¬ (y.r = z.r ∧ y.q = z.q)) ∧ acc.length ≠ 1000) ∧ (∃ t v, e = .returned (.iface t v)) ∧ Below w.heap.size w w')
theorem zeroVoid (w : World) : (zeroValue 203).run Tryz.prog w = .ok (.agg #[]) w := by kernel_rfl
theorem useC (tb B kb ub nn : Nat) (a : Option Addr) (n c : Nat) (x : Int) (aT aS aL aE : Addr) (D : DataW Value) (G : Int → Value) (L : Int → List (Int × Int)) (acc : List Lf) (z : Lf) (w : World)
    (hcur : Cur (exT kb ub) w tb a n c x) (hE : Errs w B aT aS aL aE) (hB : B ≤ w.heap.size) (hU : UsM w ub acc) (hG : GrpR w kb nn D G L) (hS : ∀ r, Srt (L r) ∧ (L r).length ≤ 1000000) (hr : (Lit.int .i64 z.r).wf = true) (hq : (Lit.int .i64 z.q).wf = true) (hl : acc.length ≤ 1000) :
    Calls Tryz.prog 105 #[.pointer (some ⟨tb, 0, none⟩), .agg #[.int .i64 z.r, .int .i64 z.q]] w fun e w' => UsP (inB (L z.r) z.q z.q) ub acc z w e w' := by
  obtain ⟨P, hP⟩ : ∃ P, UsP (inB (L z.r) z.q z.q) ub acc z w = P := ⟨_, rfl⟩
  rw [hP]
  have HP := hid hP
  clear hP
  obtain ⟨W, hW⟩ : ∃ W, w.alloc (.cells #[.int .i64 z.r, .int .i64 z.q] 87) = W := ⟨_, rfl⟩
  have b0 : Below w.heap.size w W := by rw [← hW]; exact (Below.refl _ _).alloc (Nat.le_refl _) _
  have x0 : W.cell? ⟨w.heap.size, 0, none⟩ = some (.int .i64 z.r) := by rw [← hW]; simp
  have x1 : W.cell? ⟨w.heap.size, 1, none⟩ = some (.int .i64 z.q) := by rw [← hW]; simp
  have zb : w.heap.size < W.heap.size := by rw [← hW]; simp
  have cu := hcur.below b0 hcur.lt
  have zt := cu.lt
  have kc : W.cell? ⟨tb, 2, none⟩ = some (.map (some kb)) := (cu.2.2.2 2 (by omega)).1.trans rfl
  have uc : W.cell? ⟨tb, 3, none⟩ = some (.map (some ub)) := (cu.2.2.2 3 (by omega)).1.trans rfl
  have HH : Hid (∀ w1, Below W.heap.size W w1 → Calls Tryz.prog 121 #[.map (some kb), .agg #[.int .i64 z.r, .int .i64 z.q]] w1 fun e w' => e = .returned (.bool (inB (L z.r) z.q z.q)) ∧ Below w1.heap.size w1 w') := hid (fun w1 b1 => hasR (hG.below (keepS b0 b1)) z.r z.q hr (hS z.r).1 (hS z.r).2)
  obtain ⟨Kb, hKb⟩ : ∃ Kb, inB (L z.r) z.q z.q = Kb := ⟨_, rfl⟩
  rw [hKb] at HH HP
  have HB0 := hid b0
  have HE := hid hE
  have HU := hid hU
  obtain ⟨kl, hkl⟩ := dotKey hr hq
  have HKL := hid hkl
  clear hKb hE hU hG hS hcur cu b0 hkl
  obtain ⟨rv, hrv⟩ : ∃ rv, z.r = rv := ⟨_, rfl⟩
  obtain ⟨qv, hqv⟩ : ∃ qv, z.q = qv := ⟨_, rfl⟩
  rw [hrv] at x0 HH
  rw [hqv] at x1 HH
  rw [hrv, hqv] at hW HKL ⊢
  have HZ := hid (And.intro hrv hqv)
  clear hrv hqv hr hq
  go_enter Tryz.func105, Tryz.ntmps105
  go_wp2_with fail
  try rw [hW]
  clear hW
  have HCS : Hid (∀ w', Below W.heap.size W w' → (Below W.heap.size W w' ∧ w'.cell? ⟨tb, 2, none⟩ = some (.map (some kb)) ∧ w'.cell? ⟨w.heap.size, 0, none⟩ = some (.int .i64 rv) ∧ w'.cell? ⟨w.heap.size, 1, none⟩ = some (.int .i64 qv))) := hid (fun w' hB => ⟨hB, (hB.cell (p := ⟨tb, _, none⟩) zt).trans kc, (hB.cell (p := ⟨w.heap.size, _, none⟩) zb).trans x0, (hB.cell (p := ⟨w.heap.size, _, none⟩) zb).trans x1⟩)
  refine wp_region_held_drew (S := fun w' => Below W.heap.size W w' ∧ w'.cell? ⟨tb, 2, none⟩ = some (.map (some kb)) ∧ w'.cell? ⟨w.heap.size, 0, none⟩ = some (.int .i64 rv) ∧ w'.cell? ⟨w.heap.size, 1, none⟩ = some (.int .i64 qv)) (by kernel_rfl) (HCS.out _ (Below.refl _ _).drew) (fun hHeld => ?_)
  refine tk 0 7 ?_ (by kernel_rfl) (fun _ _ _ h => h) ?_ hHeld (tk 1 8 ?_ (by kernel_rfl) (fun _ _ _ h => h) ?_ hHeld (tk 2 9 ?_ (by kernel_rfl) (fun _ _ _ h => h) ?_ hHeld (tk 3 10 ?_ (by kernel_rfl) (fun _ _ _ h => h) ?_ hHeld ?_)))
  iterate 4 (rotate_left; focus (intro o ho; simp only [gZa, gZb, gZc, gZd] at ho; subst ho; refine Or.inl ⟨by rfl, ?_⟩; intro w hSw; (try dsimp only at hSw); (try simp only [Act.put, sZa, sZb, sZc]); go_simp; try with_reducible rfl))
  try simp only [Act.put, sZa, sZb, sZc]
  refine tk 4 11 ?_ (by kernel_rfl) (fun _ _ _ h => h) ?_ hHeld ?_
  rotate_left
  · (intro o ho; simp only [gZa, gZb, gZc, gZd] at ho; subst ho; refine Or.inl ⟨by rfl, ?_⟩; intro w hSw; (try dsimp only at hSw); go_simp; try with_reducible rfl)
  try simp only [Act.put, sZa, sZb, sZc]
  refine call1 (i := 5) (d := some 12) (by kernel_rfl) (by kernel_rfl) ?_
  intro o ho hod K hK; simp only [gZa, gZb, gZc, gZd] at ho; subst ho
  go_simp
  refine (HH.out _ hHeld.1).mono ?_
  rintro e w1 ⟨rfl, b1⟩
  have hB := keepS hHeld.1 b1
  refine hK.out _ _ (HCS.out _ hB) (fun hHeld => ?_)
  clear hK K
  try simp only [Act.put, sZa, sZb, sZc]
  refine tk 6 13 ?_ (by kernel_rfl) (fun _ _ _ h => h) ?_ hHeld ?_
  rotate_left
  · (intro o ho; simp only [gZa, gZb, gZc, gZd] at ho; subst ho; refine Or.inl ⟨by rfl, ?_⟩; intro w hSw; (try dsimp only at hSw); go_simp; try with_reducible rfl)
  try simp only [Act.put, sZa, sZb, sZc]
  refine wpAnyH_done (by kernel_rfl) ?_ _
  obtain ⟨_, _, y0, y1⟩ := HCS.out _ hB
  have uc1 := (hB.cell (p := ⟨tb, 3, none⟩) zt).trans uc
  have HB1 := hid (keepS HB0.out hB)
  have HE1 := hid (HE.out.below (HB1.out.mono (by omega)))
  have HU1 := hid (HU.out.same (HB1.out.block ub HU.out.lt))
  have HZ1 := hid hB.size
  clear hHeld hB b1 HCS HH kc uc x0 x1 HE HU
  cases Kb with
  | false =>
    obtain ⟨ev, ge⟩ := HE1.out.x7
    clear y0 y1 uc1
    go_wp2_with fail
    rw [← HP.out]
    exact .inr ⟨(fun h => by cases h.1), ⟨_, _, rfl⟩, HB1.out⟩
  | true =>
    obtain ⟨Dm, hD⟩ := HU1.out
    have hlk0 : ∀ v : World, v.heap[ub]? = w1.heap[ub]? → (Instr.lookup 73 (.map (some ub)) (.agg #[.int .i64 rv, .int .i64 qv]) true).run Tryz.prog v = .ok (.tuple #[.agg #[], .bool (has Dm kl)]) v := fun v hv => by
      have ho : v.ownsMap Tryz.prog 87 allR ub acc.length Dm := own_same hD.own hv
      obtain ⟨u, ps, hrun, hu⟩ := ho.look_ok dotKeyed Tryz.underlying73 (zeroVoid v) (zd := .held (.agg #[])) (zp := []) rfl HKL.out
      have hv1 := allR_inv hu
      have hvl := hD.val rv qv kl HKL.out
      rw [hvl] at hv1
      injection hv1 with hv1
      rw [← hv1] at hrun
      exact hrun
    have hlk := hlk0 w1.drew rfl
    have bA : Below w1.heap.size w1 (w1.alloc (.cells #[] 203)) := (Below.refl _ _).alloc (Nat.le_refl _) _
    have zb1 : w.heap.size < w1.heap.size := Nat.lt_of_lt_of_le zb HZ1.out
    have zt1 : tb < w1.heap.size := Nat.lt_of_lt_of_le zt HZ1.out
    have ya0 := (bA.cell (p := ⟨w.heap.size, 0, none⟩) zb1).trans y0
    have ya1 := (bA.cell (p := ⟨w.heap.size, 1, none⟩) zb1).trans y1
    have ya3 := (bA.cell (p := ⟨tb, 3, none⟩) zt1).trans uc1
    have hlkA := hlk0 (w1.alloc (.cells #[] 203)).drew (bA.block ub HU1.out.lt)
    have HBA := hid bA
    clear bA
    have hlen0 : ∀ (v : World) (ty : TypeId), v.heap[ub]? = w1.heap[ub]? → (Builtin.len_ #[73] ty #[.map (some ub)]).run Tryz.prog v = .ok (.int .i64 (acc.length : Int)) v := fun v ty hv => by
      have ho : v.ownsMap Tryz.prog 87 allR ub acc.length Dm := own_same hD.own hv
      have := ho.len Tryz.underlying73 ty
      rw [hD.sz] at this
      exact this
    have HLN := hid hlen0
    have hhas := hD.has' rv qv kl HKL.out
    obtain ⟨T, hT⟩ : ∃ T, has Dm kl = T := ⟨_, rfl⟩
    rw [hT] at hlk hlkA hhas
    have HHas := hid hhas
    clear hlk0 hhas hT hlen0
    cases T with
    | true =>
      have HNF : Hid (¬ ((∀ y ∈ acc, ¬ (y.r = z.r ∧ y.q = z.q)) ∧ acc.length ≠ 1000)) := hid (fun h => by
        obtain ⟨y, hy, e1, e2⟩ := HHas.out.1 rfl
        exact h.1 y hy ⟨e1.trans HZ.out.1.symm, e2.trans HZ.out.2.symm⟩)
      have HEA := HE1.out.below (HBA.out.mono (Nat.le_trans hB HB1.out.size))
      obtain ⟨ev, ge⟩ := HEA.x8
      clear HEA
      go_wp2_with fail
      go_region
      all_goals go_wp2_with fail
      all_goals (rw [← HP.out]; exact .inr ⟨fun h => HNF.out h.2, ⟨_, _, rfl⟩, (keepS HB1.out HBA.out).drew⟩)
    | false =>
      have HFR : Hid (∀ y ∈ acc, ¬ (y.r = z.r ∧ y.q = z.q)) := hid (fun y hy e => by
        have := HHas.out.2 ⟨y, hy, e.1.trans HZ.out.1, e.2.trans HZ.out.2⟩
        cases this)
      have hln := HLN.out (w1.alloc (.cells #[] 203)).drew 3 (HBA.out.block ub HU1.out.lt)
      by_cases h1000 : acc.length = 1000
      · have HNF : Hid (¬ ((∀ y ∈ acc, ¬ (y.r = z.r ∧ y.q = z.q)) ∧ acc.length ≠ 1000)) := hid (fun h => h.2 h1000)
        have HEA := HE1.out.below (HBA.out.mono (Nat.le_trans hB HB1.out.size))
        obtain ⟨ev, ge⟩ := HEA.gM
        have dl : ((acc.length : Int) == 1000) = true := by rw [h1000]; rfl
        rw [h1000] at hln
        clear HEA h1000
        go_wp2_with fail
        go_region
        all_goals go_wp2_with fail
        all_goals (rw [← HP.out]; exact .inr ⟨fun h => HNF.out h.2, ⟨_, _, rfl⟩, (keepS HB1.out HBA.out).drew⟩)
      · obtain ⟨w9, r9, o9, g9⟩ := (own_same (w' := (w1.alloc (.cells #[] 203)).drew.drew) hD.own (HBA.out.block ub HU1.out.lt)).update dotKeyed Tryz.underlying73 (by unfold maxLen; omega) HKL.out (val := .agg #[]) (d := .held (.agg #[])) (ps := []) rfl
        have H9 : Hid (UsM w9 ub (acc ++ [z]) ∧ w.grownBy w9 (some ub)) := hid ⟨⟨_, hD.step (by have := HKL.out; rw [← HZ.out.1, ← HZ.out.2] at this; exact this) HFR.out o9⟩, by
          have b2 := (keepS HB1.out HBA.out)
          exact ⟨g9.os.trans b2.os, g9.tape.trans b2.tape, g9.output.trans b2.output, Nat.le_trans b2.size g9.size, fun k hk hne => (g9.block k (Nat.lt_of_lt_of_le hk b2.size) hne).trans (b2.block k hk)⟩⟩
        have dl : ((acc.length : Int) == 1000) = false := by simp; omega
        have HL1 := hid h1000
        unfold dotV at r9
        clear o9 g9 hD h1000
        go_wp2_with fail
        go_region
        all_goals go_wp2_with fail
        all_goals go_region
        all_goals go_wp2_with fail
        all_goals (rw [← HP.out]; exact .inl ⟨rfl, HFR.out, HL1.out, rfl, H9.out.1, H9.out.2⟩)
structure G2 (tb ub : Nat) (w w' : World) : Prop where
  os : w'.os = w.os
  tape : w'.tape = w.tape
  output : w'.output = w.output
  size : w.heap.size ≤ w'.heap.size
  block : ∀ k, k < w.heap.size → k ≠ tb → k ≠ ub → w'.heap[k]? = w.heap[k]?
theorem G2.trans {tb ub : Nat} {a b c : World} (h : G2 tb ub a b) (k : G2 tb ub b c) : G2 tb ub a c :=
  ⟨k.os.trans h.os, k.tape.trans h.tape, k.output.trans h.output, Nat.le_trans h.size k.size, fun g hg h1 h2 => (k.block g (Nat.lt_of_lt_of_le hg h.size) h1 h2).trans (h.block g hg h1 h2)⟩
theorem G2.below {tb ub : Nat} {w w' : World} (h : Below w.heap.size w w') : G2 tb ub w w' := ⟨h.os, h.tape, h.output, h.size, fun k hk _ _ => h.block k hk⟩
theorem G2.t {tb ub : Nat} {w w' : World} (h : w.grownBy w' (some tb)) : G2 tb ub w w' := ⟨h.os, h.tape, h.output, h.size, fun k hk h1 _ => h.block k hk (fun e => h1 (by injection e))⟩
theorem G2.u {tb ub : Nat} {w w' : World} (h : w.grownBy w' (some ub)) : G2 tb ub w w' := ⟨h.os, h.tape, h.output, h.size, fun k hk _ h2 => h.block k hk (fun e => h2 (by injection e))⟩
theorem G2.cell {tb ub : Nat} {w w' : World} (h : G2 tb ub w w') {k i : Nat} (hk : k < w.heap.size) (h1 : k ≠ tb) (h2 : k ≠ ub) : w'.cell? ⟨k, i, none⟩ = w.cell? ⟨k, i, none⟩ := World.cell?_of_block (a := ⟨k, i, none⟩) (h.block k hk h1 h2)
theorem G2.frozen {tb ub : Nat} {w w' : World} (h : G2 tb ub w w') {k i : Nat} (hk : k < w.heap.size) (h1 : k ≠ tb) (h2 : k ≠ ub) : w'.frozen? ⟨k, i, none⟩ = w.frozen? ⟨k, i, none⟩ := World.frozen?_of_block (a := ⟨k, i, none⟩) (h.block k hk h1 h2)
theorem G2.set {tb ub : Nat} {w w' : World} (h : G2 tb ub w w') (q : Addr) (v : Value) (hq : w.heap.size ≤ q.block) : G2 tb ub w (w'.setCell q v) :=
  ⟨h.os, h.tape, h.output, by simpa [World.setCell] using h.size, fun k hk h1 h2 => (Below.heap_setCell _ _ _ _ (by omega)).trans (h.block k hk h1 h2)⟩
structure TS (w : World) (tb B kb ub bs hi : Nat) (a : Option Addr) (n c : Nat) (f : Nat → Int) (aT aS aL aE : Addr) (L : Int → List (Int × Int)) (x : Int) (acc : List Lf) : Prop where
  cur : Cur (exT kb ub) w tb a n c x
  seg : Seg w a n f
  err : Errs w B aT aS aL aE
  us : UsM w ub acc
  grp : ∃ nn D G, GrpR w kb nn D G L ∧ ∀ r g, (G r).ownBlock = some g → bs ≤ g ∧ g < hi
  ab : ∀ y, a = some y → y.block ≠ tb ∧ y.block ≠ ub ∧ y.block < hi
  ne : tb ≠ ub
  bt : B ≤ tb
  bu : B ≤ ub
  tl : tb < bs
  ul : ub < bs
  kl : bs ≤ kb
  kh : kb < hi
section
variable {w w' : World} {tb B kb ub bs hi : Nat} {a : Option Addr} {n c : Nat} {f : Nat → Int} {aT aS aL aE : Addr} {L : Int → List (Int × Int)} {x x' : Int} {acc acc' : List Lf}
theorem TS.lt (h : TS w tb B kb ub bs hi a n c f aT aS aL aE L x acc) : B ≤ w.heap.size := Nat.le_trans h.bt (Nat.le_of_lt h.cur.lt)
theorem TS.t (h : TS w tb B kb ub bs hi a n c f aT aS aL aE L x acc) (g : w.grownBy w' (some tb)) (cu : Cur (exT kb ub) w' tb a n c x') : TS w' tb B kb ub bs hi a n c f aT aS aL aE L x' acc := by
  obtain ⟨nn, D, G, h1, h2⟩ := h.grp
  refine ⟨cu, h.seg.grown g (fun y hy => (h.ab y hy).1), h.err.grown g h.bt h.cur.lt, h.us.same (g.block ub h.us.lt (fun e => h.ne (by injection e with e; exact e.symm))), ⟨nn, D, G, h1.gr g (fun e => ?_) (fun r k hk e => ?_), h2⟩, h.ab, h.ne, h.bt, h.bu, h.tl, h.ul, h.kl, h.kh⟩
  · injection e with e; have := h.tl; have := h.kl; omega
  · injection e with e; have := h.tl; have := (h2 r k hk).1; omega
theorem TS.u (h : TS w tb B kb ub bs hi a n c f aT aS aL aE L x acc) (g : w.grownBy w' (some ub)) (us : UsM w' ub acc') : TS w' tb B kb ub bs hi a n c f aT aS aL aE L x acc' := by
  obtain ⟨nn, D, G, h1, h2⟩ := h.grp
  refine ⟨h.cur.at' (g.block tb h.cur.lt (fun e => h.ne (by injection e))), h.seg.grown g (fun y hy => (h.ab y hy).2.1), h.err.grown g h.bu h.us.lt, us, ⟨nn, D, G, h1.gr g (fun e => ?_) (fun r k hk e => ?_), h2⟩, h.ab, h.ne, h.bt, h.bu, h.tl, h.ul, h.kl, h.kh⟩
  · injection e with e; have := h.ul; have := h.kl; omega
  · injection e with e; have := h.ul; have := (h2 r k hk).1; omega
theorem TS.below (h : TS w tb B kb ub bs hi a n c f aT aS aL aE L x acc) (hb : Below w.heap.size w w') : TS w' tb B kb ub bs hi a n c f aT aS aL aE L x acc := by
  obtain ⟨nn, D, G, h1, h2⟩ := h.grp
  exact ⟨h.cur.below hb h.cur.lt, h.seg.below hb, h.err.below (hb.mono h.lt), h.us.same (hb.block ub h.us.lt), ⟨nn, D, G, h1.below hb, h2⟩, h.ab, h.ne, h.bt, h.bu, h.tl, h.ul, h.kl, h.kh⟩
theorem TS.setF (h : TS w tb B kb ub bs hi a n c f aT aS aL aE L x acc) (q : Addr) (v : Value) (hq : hi ≤ q.block) : TS (w.setCell q v) tb B kb ub bs hi a n c f aT aS aL aE L x acc := by
  obtain ⟨nn, D, G, g1, g2⟩ := h.grp
  have e1 := h.tl
  have e2 := h.ul
  have e3 := h.kl
  have e4 := h.kh
  have e5 := h.bt
  have g : w.grownBy (w.setCell q v) (some q.block) := ⟨rfl, rfl, rfl, by simp [World.setCell], fun k hk hne => Below.heap_setCell _ _ _ _ (fun e => hne (by rw [e]))⟩
  refine ⟨h.cur.at' (Below.heap_setCell _ _ _ _ (by omega)), h.seg.grown g (fun y hy => by have := (h.ab y hy).2.2; omega), h.err.below ((Below.refl B w).setCell (p := q) (by omega) v), h.us.same (Below.heap_setCell _ _ _ _ (by omega)), ⟨nn, D, G, g1.gr g (fun e => by injection e with e; omega) (fun r k hk e => by injection e with e; have := (g2 r k hk).2; omega), g2⟩, h.ab, h.ne, h.bt, h.bu, h.tl, h.ul, h.kl, h.kh⟩
end
section
variable {w v v' : World} {tb B kb ub bs hi : Nat} {a : Option Addr} {n c : Nat} {f : Nat → Int} {aT aS aL aE : Addr} {L : Int → List (Int × Int)} {x x' : Int} {acc acc' : List Lf}
structure RB (v : World) (b : Nat) : Prop where
  c0 : ∃ u, v.cell? ⟨b, 0, none⟩ = some (.int .i64 u)
  c1 : ∃ u, v.cell? ⟨b, 1, none⟩ = some (.int .i64 u)
  c2 : ∃ u, v.cell? ⟨b + 1, 0, none⟩ = some (.string u)
  f0 : ∀ i, v.frozen? ⟨b, i, none⟩ = false
  f1 : ∀ i, v.frozen? ⟨b + 1, i, none⟩ = false
  lt : b + 1 < v.heap.size
theorem RB.g2 {b : Nat} (h : RB v b) (g : G2 tb ub v v') (h1 : tb < b) (h2 : ub < b) : RB v' b := by
  have l := h.lt
  obtain ⟨u0, k0⟩ := h.c0
  obtain ⟨u1, k1⟩ := h.c1
  obtain ⟨u2, k2⟩ := h.c2
  exact ⟨⟨u0, (g.cell (by omega) (by omega) (by omega)).trans k0⟩, ⟨u1, (g.cell (by omega) (by omega) (by omega)).trans k1⟩, ⟨u2, (g.cell (by omega) (by omega) (by omega)).trans k2⟩, fun i => (g.frozen (by omega) (by omega) (by omega)).trans (h.f0 i), fun i => (g.frozen (by omega) (by omega) (by omega)).trans (h.f1 i), Nat.lt_of_lt_of_le l g.size⟩
theorem RB.fill {b : Nat} (h : RB v b) (g : G2 tb ub w v) (hb : w.heap.size ≤ b) (r q : Int) (s : ByteArray) :
    ∃ Z, Z = ((v.setCell ⟨b, 0, none⟩ (.int .i64 r)).setCell ⟨b, 1, none⟩ (.int .i64 q)).setCell ⟨b + 1, 0, none⟩ (.string s) ∧ Z.cell? ⟨b, 0, none⟩ = some (.int .i64 r) ∧ Z.cell? ⟨b, 1, none⟩ = some (.int .i64 q) ∧ Z.cell? ⟨b + 1, 0, none⟩ = some (.string s) ∧ G2 tb ub w Z := by
  obtain ⟨u0, k0⟩ := h.c0
  obtain ⟨u1, k1⟩ := h.c1
  obtain ⟨u2, k2⟩ := h.c2
  refine ⟨_, rfl, ?_, ?_, ?_, ((g.set _ _ hb).set _ _ hb).set _ _ (by simp; omega)⟩
  · rw [World.cell?_setCell_far _ _ _ _ (by simp), World.cell?_setCell_other _ _ _ _ (by simp)]
    exact World.cell?_setCell_same _ _ _ k0
  · rw [World.cell?_setCell_far _ _ _ _ (by simp)]
    exact World.cell?_setCell_same _ _ _ (by rw [World.cell?_setCell_other _ _ _ _ (by simp)]; exact k1)
  · exact World.cell?_setCell_same _ _ _ (by rw [World.cell?_setCell_far _ _ _ _ (by simp), World.cell?_setCell_far _ _ _ _ (by simp)]; exact k2)
theorem TS.fill {b : Nat} (t : TS v tb B kb ub bs hi a n c f aT aS aL aE L x acc) (ht : hi ≤ b) (r q : Int) (s : ByteArray) : TS (((v.setCell ⟨b, 0, none⟩ (.int .i64 r)).setCell ⟨b, 1, none⟩ (.int .i64 q)).setCell ⟨b + 1, 0, none⟩ (.string s)) tb B kb ub bs hi a n c f aT aS aL aE L x acc :=
  ((t.setF _ _ ht).setF _ _ ht).setF _ _ (by simp; omega)
theorem UsM.swap {z z' : Lf} (h : UsM v ub (acc ++ [z])) (er : z'.r = z.r) (eq : z'.q = z.q) : UsM v ub (acc ++ [z']) := by
  obtain ⟨D, h⟩ := h
  have el : (acc ++ [z']).length = (acc ++ [z]).length := by simp
  refine ⟨D, by rw [el]; exact h.own, h.tidy, fun r q kl hk => ?_, by rw [el]; exact h.sz, h.val⟩
  rw [h.has' r q kl hk]
  simp only [List.mem_append, List.mem_singleton]
  constructor
  · rintro ⟨y, hy | rfl, e1, e2⟩
    · exact ⟨y, .inl hy, e1, e2⟩
    · exact ⟨z', .inr rfl, er.trans e1, eq.trans e2⟩
  · rintro ⟨y, hy | rfl, e1, e2⟩
    · exact ⟨y, .inl hy, e1, e2⟩
    · exact ⟨z, .inr rfl, er.symm.trans e1, eq.symm.trans e2⟩
theorem TS.swap {z : Lf} (h : TS v tb B kb ub bs hi a n c f aT aS aL aE L x (acc ++ [z])) (z' : Lf) (er : z'.r = z.r) (eq : z'.q = z.q) : TS v tb B kb ub bs hi a n c f aT aS aL aE L x (acc ++ [z']) :=
  ⟨h.cur, h.seg, h.err, h.us.swap er eq, h.grp, h.ab, h.ne, h.bt, h.bu, h.tl, h.ul, h.kl, h.kh⟩
end
theorem three_made (w : World) (c0 c1 c2 : Array Value) (t0 t1 t2 : TypeId) : (∀ i, (((w.alloc (.cells c0 t0)).alloc (.cells c1 t1)).alloc (.cells c2 t2)).cell? ⟨w.heap.size, i, none⟩ = c0[i]?) ∧ (∀ i, (((w.alloc (.cells c0 t0)).alloc (.cells c1 t1)).alloc (.cells c2 t2)).cell? ⟨w.heap.size + 1, i, none⟩ = c1[i]?) ∧ (∀ i, (((w.alloc (.cells c0 t0)).alloc (.cells c1 t1)).alloc (.cells c2 t2)).cell? ⟨w.heap.size + 1 + 1, i, none⟩ = c2[i]?) ∧ (∀ i, (((w.alloc (.cells c0 t0)).alloc (.cells c1 t1)).alloc (.cells c2 t2)).frozen? ⟨w.heap.size + 1, i, none⟩ = false) ∧ (∀ i, (((w.alloc (.cells c0 t0)).alloc (.cells c1 t1)).alloc (.cells c2 t2)).frozen? ⟨w.heap.size + 1 + 1, i, none⟩ = false) := by
  refine ⟨fun i => ?_, fun i => ?_, fun i => ?_, fun i => ?_, fun i => ?_⟩
  · rw [World.cell?_alloc_past _ _ _ (by simp; omega), World.cell?_alloc_past _ _ _ (by simp), World.cell?_alloc_at _ _ _ _ rfl]
  · rw [World.cell?_alloc_past _ _ _ (by simp), World.cell?_alloc_at _ _ _ _ (by simp)]
  · rw [World.cell?_alloc_at _ _ _ _ (by simp)]
  · rw [World.frozen?_alloc_past _ _ _ (by simp), World.frozen?_alloc_at _ _ _ _ (by simp)]
  · rw [World.frozen?_alloc_at _ _ _ _ (by simp)]
def LfP (w : World) (tb B kb ub bs hi : Nat) (a : Option Addr) (n c : Nat) (f : Nat → Int) (aT aS aL aE : Addr) (L : Int → List (Int × Int)) (x : Nat) (acc : List Lf) (kind : Int) (p : List ByteArray) (before : Dt) (e : Ending) (w' : World) : Prop := G2 tb ub w w' ∧
  ((∃ z x', rdLf f n (fun r q => inB (L r) q q) kind p before acc x = some (z, x') ∧ e = .returned (.tuple #[.agg #[.int .i64 z.r, .int .i64 z.q], .agg #[.string z.v], .nilIface]) ∧ TS w' tb B kb ub bs hi a n c f aT aS aL aE L ((x' : Nat) : Int) (acc ++ [z])) ∨
   (rdLf f n (fun r q => inB (L r) q q) kind p before acc x = none ∧ ∃ r q s t v, e = .returned (.tuple #[.agg #[.int .i64 r, .int .i64 q], .agg #[.string s], .iface t v])))
theorem leafC (tb B kb ub bs hi : Nat) (a : Option Addr) (n c : Nat) (f : Nat → Int) (aT aS aL aE : Addr) (L : Int → List (Int × Int)) (x : Nat) (acc : List Lf) (kind : Int) (p : List ByteArray) (br bq : Int) (w : World) (hn : n ≤ 1048576) (hnc : n ≤ c) (hcc : c ≤ 4611686018427387904) (hf : Byt f) (hk : kind = 1 ∨ kind = 2)
    (hT : TS w tb B kb ub bs hi a n c f aT aS aL aE L (x : Int) acc) (hhi : hi ≤ w.heap.size) (hS : ∀ r, Srt (L r) ∧ (L r).length ≤ 1000000) (hl : acc.length ≤ 1000) :
    Calls Tryz.prog 90 #[.pointer (some ⟨tb, 0, none⟩), .int .i64 kind, .agg #[.int .i64 br, .int .i64 bq]] w fun e w' => LfP w tb B kb ub bs hi a n c f aT aS aL aE L x acc kind p (br, bq) e w' := by
  obtain ⟨P, hP⟩ : ∃ P, LfP w tb B kb ub bs hi a n c f aT aS aL aE L x acc kind p (br, bq) = P := ⟨_, rfl⟩
  rw [hP]
  have HP := hid hP
  clear hP
  obtain ⟨W, hW⟩ : ∃ W, ((w.alloc (.cells #[.int .i64 br, .int .i64 bq] 87)).alloc (.cells #[.int .i64 0, .int .i64 0] 87)).alloc (.cells #[.string ⟨#[]⟩] 122) = W := ⟨_, rfl⟩
  have b0 : Below w.heap.size w W := by rw [← hW]; exact (((Below.refl _ _).alloc (Nat.le_refl _) _).alloc (by simp) _).alloc (by simp; omega) _
  have zW : W.heap.size = w.heap.size + 1 + 1 + 1 := by rw [← hW]; simp
  obtain ⟨m0, m1, m2, m3, m4⟩ := three_made w #[.int .i64 br, .int .i64 bq] #[.int .i64 0, .int .i64 0] #[.string ⟨#[]⟩] 87 87 122
  rw [hW] at m0 m1 m2 m3 m4
  have x0 : W.cell? ⟨w.heap.size, 0, none⟩ = some (.int .i64 br) := m0 0
  have x1 : W.cell? ⟨w.heap.size, 1, none⟩ = some (.int .i64 bq) := m0 1
  have R0 : RB W (w.heap.size + 1) := ⟨⟨0, m1 0⟩, ⟨0, m1 1⟩, ⟨⟨#[]⟩, m2 0⟩, m3, m4, by omega⟩
  clear m0 m1 m2 m3 m4
  have T0 := hT.below b0
  have ht0 : tb < w.heap.size := hT.cur.lt
  have hu0 : ub < w.heap.size := hT.us.lt
  have HD := hid (dotC tb B a n c x f aT aS aL aE W hn hf T0.cur T0.seg (fun y hy => (hT.ab y hy).1) T0.err hT.bt)
  have HT0 := hid T0
  have HR0 := hid R0
  have HG0 := hid (G2.below (tb := tb) (ub := ub) b0)
  have HS := hid hS
  have HF := hid hf
  have HZ := hid zW
  have HX := hid (And.intro x0 x1)
  have hbt := hT.bt
  clear hT T0 R0 b0 hS hf zW x0 x1
  go_enter Tryz.func90, Tryz.ntmps90
  go_wp2_with fail
  try rw [hW]
  clear hW
  have hb1 : tb < w.heap.size + 1 := by omega
  have hb2 : ub < w.heap.size + 1 := by omega
  refine HD.out.mono ?_
  rintro e w1 ⟨g1, ⟨r, q, x', hr, rfl, cu⟩ | ⟨hr, r, q, t, v, y, rfl, cu⟩⟩
  rotate_left
  · have HN : Hid (rdLf f n (fun r q => inB (L r) q q) kind p (br, bq) acc x = none) := hid (by
      unfold rdD at hr
      unfold rdLf
      cases h1 : rd f n x 7 with
      | none => rfl
      | some a1 =>
        rw [h1] at hr
        simp only [Option.bind_some] at hr ⊢
        cases h2 : rd f n a1.2 1000000000 with
        | none => rfl
        | some a2 => rw [h2] at hr; cases hr)
    have HG1 := hid (HG0.out.trans (G2.t g1))
    have HR1 := hid (HR0.out.g2 (G2.t (ub := ub) g1) hb1 hb2)
    have bA : Below w1.heap.size w1 (w1.alloc (.cells #[.int .i64 r, .int .i64 q] 87)) := (Below.refl _ _).alloc (Nat.le_refl _) _
    obtain ⟨W1, hW1⟩ : ∃ W1, w1.alloc (.cells #[.int .i64 r, .int .i64 q] 87) = W1 := ⟨_, rfl⟩
    rw [hW1] at bA
    have HG2 := hid (HG1.out.trans (G2.below bA))
    have R1 := HR1.out.g2 (G2.below (tb := tb) (ub := ub) bA) hb1 hb2
    obtain ⟨u0, k0⟩ := R1.c0
    obtain ⟨u1, k1⟩ := R1.c1
    obtain ⟨u2, k2⟩ := R1.c2
    have f0 := R1.f0
    have f1 := R1.f1
    have HR2 := hid R1
    clear bA g1 hr cu R1 HD
    go_wp2_with fail
    obtain ⟨Z, hZ, q0, q1, q2, HZ2⟩ := HR2.out.fill HG2.out (by omega) 0 0 ⟨#[]⟩
    rw [← hZ]
    clear hZ
    refine bodyPost_ret (v := .tuple #[.agg #[.int .i64 0, .int .i64 0], .agg #[.string ⟨#[]⟩], .iface t v]) (by simp [results, Tryz.results90, go_sem, q0, q1, q2]) rfl ?_
    rw [← HP.out]
    exact ⟨HZ2, .inr ⟨HN.out, _, _, _, _, _, rfl⟩⟩
  · have HDr := hid hr
    have T1 := HT0.out.t g1 cu
    have hrb : (r : Int) ≤ 7 ∧ (q : Int) ≤ 1000000000 := by
      unfold rdD at hr
      obtain ⟨a1, h1, hr⟩ := bind_some_iff.1 hr
      obtain ⟨a2, h2, hr⟩ := bind_some_iff.1 hr
      simp only [Option.some.injEq, Prod.mk.injEq] at hr
      obtain ⟨⟨rfl, rfl⟩, _⟩ := hr
      exact ⟨((rd_iff HF.out (V := a1.1) (x' := a1.2)).1 h1).2.1, ((rd_iff HF.out (V := a2.1) (x' := a2.2)).1 h2).2.1⟩
    have HG1 := hid (HG0.out.trans (G2.t g1))
    have HR1 := hid (HR0.out.g2 (G2.t (ub := ub) g1) hb1 hb2)
    obtain ⟨W1, hW1⟩ : ∃ W1, w1.alloc (.cells #[.int .i64 (r : Int), .int .i64 (q : Int)] 87) = W1 := ⟨_, rfl⟩
    have bA : Below w1.heap.size w1 W1 := by rw [← hW1]; exact (Below.refl _ _).alloc (Nat.le_refl _) _
    have d0 : W1.cell? ⟨w1.heap.size, 0, none⟩ = some (.int .i64 (r : Int)) := by rw [← hW1]; simp
    have d1 : W1.cell? ⟨w1.heap.size, 1, none⟩ = some (.int .i64 (q : Int)) := by rw [← hW1]; simp
    have dl : w1.heap.size < W1.heap.size := by rw [← hW1]; simp
    have hw1 : w.heap.size + 1 + 1 + 1 ≤ w1.heap.size := by have := g1.size; have := HZ.out; omega
    have HG2 := hid (HG1.out.trans (G2.below bA))
    have HR2 := hid (HR1.out.g2 (G2.below (tb := tb) (ub := ub) bA) hb1 hb2)
    have HT2 := hid (T1.below bA)
    have y0 : W1.cell? ⟨w.heap.size, 0, none⟩ = some (.int .i64 br) := ((G2.t (ub := ub) g1).trans (G2.below bA)).cell (by have := HZ.out; omega) (by omega) (by omega) |>.trans HX.out.1
    have y1 : W1.cell? ⟨w.heap.size, 1, none⟩ = some (.int .i64 bq) := ((G2.t (ub := ub) g1).trans (G2.below bA)).cell (by have := HZ.out; omega) (by omega) (by omega) |>.trans HX.out.2
    have HD01 := hid (And.intro d0 d1)
    have HCD := hid (compareDots br bq (r : Int) (q : Int) W1)
    clear g1 hr cu T1 bA HD HG1 HR1
    go_wp2_with fail
    clear hW1 d0 d1 y0 y1
    refine HCD.out.mono ?_
    rintro e w2 ⟨rfl, b2⟩
    have HG3 := hid (HG2.out.trans (G2.below b2))
    have HR3 := hid (HR2.out.g2 (G2.below (tb := tb) (ub := ub) b2) hb1 hb2)
    have HT3 := hid (HT2.out.below b2)
    have d0 := (b2.cell (p := ⟨w1.heap.size, 0, none⟩) dl).trans HD01.out.1
    have d1 := (b2.cell (p := ⟨w1.heap.size, 1, none⟩) dl).trans HD01.out.2
    have dl2 := Nat.lt_of_lt_of_le dl b2.size
    obtain ⟨cv, hcv⟩ : ∃ cv, cmpD br bq (r : Int) (q : Int) = cv := ⟨_, rfl⟩
    have HCV := hid hcv
    rw [hcv]
    clear HCD b2 HG2 HR2 HT2 HD01 hcv dl
    have hrd2 : Hid (rdLf f n (fun r q => inB (L r) q q) kind p (br, bq) acc x = if yes (cv < 0 ∧ inB (L (r : Int)) (q : Int) (q : Int) = true ∧ (∀ y ∈ acc, ¬ (y.r = (r : Int) ∧ y.q = (q : Int))) ∧ acc.length ≠ 1000) = true then (if kind = 2 then some (⟨p, true, (r : Int), (q : Int), ByteArray.empty⟩, x') else (rdTx f n x' 200).bind fun t => some (⟨p, false, (r : Int), (q : Int), t.1⟩, t.2)) else none) := hid (by
      have hr := HDr.out
      unfold rdD at hr
      obtain ⟨a1, h1, hr⟩ := bind_some_iff.1 hr
      obtain ⟨a2, h2, hr⟩ := bind_some_iff.1 hr
      simp only [Option.some.injEq, Prod.mk.injEq] at hr
      obtain ⟨⟨rfl, rfl⟩, rfl⟩ := hr
      unfold rdLf
      rw [h1]
      simp only [Option.bind_some]
      rw [h2, ← HCV.out]
      rfl)
    clear HDr HCV
    by_cases hcv : 0 ≤ cv
    · have HN : Hid (rdLf f n (fun r q => inB (L r) q q) kind p (br, bq) acc x = none) := hid (by rw [hrd2.out, yes_f (fun h => by omega)]; rfl)
      obtain ⟨ev, ge⟩ := HT3.out.err.gO
      obtain ⟨u0, k0⟩ := HR3.out.c0
      obtain ⟨u1, k1⟩ := HR3.out.c1
      obtain ⟨u2, k2⟩ := HR3.out.c2
      have f0 := HR3.out.f0
      have f1 := HR3.out.f1
      have lo : 5 < w.heap.size := Nat.lt_of_lt_of_le (Nat.lt_of_lt_of_le (by decide) HT3.out.err.lG) (Nat.le_trans hbt (Nat.le_of_lt ht0))
      have ge1 : (w2.setCell ⟨w.heap.size + 1, 0, none⟩ (.int .i64 0)).cell? ⟨5, 0, none⟩ = some (.iface 233 ev) := by rw [World.cell?_setCell_far _ _ _ _ (by simp; omega)]; exact ge
      have ge2 : ((w2.setCell ⟨w.heap.size + 1, 0, none⟩ (.int .i64 0)).setCell ⟨w.heap.size + 1, 1, none⟩ (.int .i64 0)).cell? ⟨5, 0, none⟩ = some (.iface 233 ev) := by rw [World.cell?_setCell_far _ _ _ _ (by simp; omega)]; exact ge1
      have ge3 : (((w2.setCell ⟨w.heap.size + 1, 0, none⟩ (.int .i64 0)).setCell ⟨w.heap.size + 1, 1, none⟩ (.int .i64 0)).setCell ⟨w.heap.size + 1 + 1, 0, none⟩ (.string ⟨#[]⟩)).cell? ⟨5, 0, none⟩ = some (.iface 233 ev) := by rw [World.cell?_setCell_far _ _ _ _ (by simp; omega)]; exact ge2
      have hwb : w.heap.size ≤ w.heap.size + 1 := by omega
      clear hrd2 HT3 d0 d1 lo
      go_wp2_with fail
      go_region
      all_goals go_wp2_with fail
      all_goals (
        obtain ⟨Z, hZ, q0, q1, q2, HZ2⟩ := HR3.out.fill HG3.out hwb 0 0 ⟨#[]⟩
        rw [← hZ]
        clear hZ
        refine bodyPost_ret (v := .tuple #[.agg #[.int .i64 0, .int .i64 0], .agg #[.string ⟨#[]⟩], .iface 233 ev]) (by simp [results, Tryz.results90, go_sem, q0, q1, q2]) rfl ?_
        rw [← HP.out]
        exact ⟨HZ2.trans (G2.below (Below.refl _ _).drew), .inr ⟨HN.out, _, _, _, _, _, rfl⟩⟩)
    · have hcv' : cv < 0 := by omega
      obtain ⟨nn, D, G, hgr, hgb⟩ := HT3.out.grp
      have zr : (Lit.int .i64 (r : Int)).wf = true := wfI (by omega) (by omega)
      have zq : (Lit.int .i64 (q : Int)).wf = true := wfI (by omega) (by omega)
      have HU := hid (useC tb B kb ub nn a n c (x' : Int) aT aS aL aE D G L acc ⟨p, decide (kind = 2), (r : Int), (q : Int), ByteArray.empty⟩ w2 HT3.out.cur HT3.out.err HT3.out.lt HT3.out.us hgr HS.out zr zq hl)
      clear hgr hgb zr zq
      have HDL := hid (And.intro d0 (And.intro d1 dl2))
      go_wp2_with fail
      clear d0 d1 dl2
      refine HU.out.mono ?_
      clear HU
      rintro e w3 (⟨hK, hfr, hlen, rfl, us, g3⟩ | ⟨hN, ⟨t, v, rfl⟩, b3⟩)
      rotate_left
      · have HN : Hid (rdLf f n (fun r q => inB (L r) q q) kind p (br, bq) acc x = none) := hid (by rw [hrd2.out, yes_f (fun h => hN h.2)]; rfl)
        have HG4 := hid (HG3.out.trans (G2.below b3))
        have HR4 := hid (HR3.out.g2 (G2.below (tb := tb) (ub := ub) b3) hb1 hb2)
        obtain ⟨u0, k0⟩ := HR4.out.c0
        obtain ⟨u1, k1⟩ := HR4.out.c1
        obtain ⟨u2, k2⟩ := HR4.out.c2
        have f0 := HR4.out.f0
        have f1 := HR4.out.f1
        have hwb : w.heap.size ≤ w.heap.size + 1 := by omega
        clear hrd2 HT3 HG3 HR3 hN b3 HDL
        go_wp2_with fail
        obtain ⟨Z, hZ, q0, q1, q2, HZ2⟩ := HR4.out.fill HG4.out hwb 0 0 ⟨#[]⟩
        rw [← hZ]
        clear hZ
        refine bodyPost_ret (v := .tuple #[.agg #[.int .i64 0, .int .i64 0], .agg #[.string ⟨#[]⟩], .iface t v]) (by simp [results, Tryz.results90, go_sem, q0, q1, q2]) rfl ?_
        rw [← HP.out]
        exact ⟨HZ2, .inr ⟨HN.out, _, _, _, _, _, rfl⟩⟩
      · have HY : Hid (rdLf f n (fun r q => inB (L r) q q) kind p (br, bq) acc x = if kind = 2 then some (⟨p, true, (r : Int), (q : Int), ByteArray.empty⟩, x') else (rdTx f n x' 200).bind fun t => some (⟨p, false, (r : Int), (q : Int), t.1⟩, t.2)) := hid (by rw [hrd2.out, yes_t ⟨hcv', hK, hfr, hlen⟩]; rfl)
        have HT4 := hid (HT3.out.u g3 us)
        have HG4 := hid (HG3.out.trans (G2.u g3))
        have HR4 := hid (HR3.out.g2 (G2.u (tb := tb) g3) hb1 hb2)
        have d0 : w3.cell? ⟨w1.heap.size, 0, none⟩ = some (.int .i64 (r : Int)) := ((G2.u (tb := tb) g3).cell HDL.out.2.2 (by omega) (by omega)).trans HDL.out.1
        have d1 : w3.cell? ⟨w1.heap.size, 1, none⟩ = some (.int .i64 (q : Int)) := ((G2.u (tb := tb) g3).cell HDL.out.2.2 (by omega) (by omega)).trans HDL.out.2.1
        have dl3 : w1.heap.size < w3.heap.size := Nat.lt_of_lt_of_le HDL.out.2.2 g3.size
        have hwb : w.heap.size ≤ w.heap.size + 1 := by omega
        have hhb : hi ≤ w.heap.size + 1 := by omega
        clear hrd2 HT3 HG3 HR3 hK hfr hlen us g3 HDL
        rcases hk with rfl | rfl
        · have HTx := hid (textE (EX := exT kb ub) tb B a n c x' 200 f aT aS aL aE w3 hn hnc hcc HF.out HT4.out.seg HT4.out.cur HT4.out.err hbt (fun y hy => (HT4.out.ab y hy).1) (by omega) (by omega))
          have HDL := hid (And.intro d0 (And.intro d1 dl3))
          go_wp2_with fail
          clear d0 d1 dl3
          refine HTx.out.mono ?_
          clear HTx
          rintro e w4 ⟨g4, ⟨s, x2, hs, rfl, cu⟩ | ⟨hs, t, v, y, rfl, cu⟩⟩
          · have HY2 : Hid (rdLf f n (fun r q => inB (L r) q q) 1 p (br, bq) acc x = some (⟨p, false, (r : Int), (q : Int), s⟩, x2)) := hid (by rw [HY.out, if_neg (by decide), hs]; rfl)
            have HT5 := hid ((HT4.out.t g4 cu).swap ⟨p, false, (r : Int), (q : Int), s⟩ rfl rfl)
            have HG5 := hid (HG4.out.trans (G2.t g4))
            have HR5 := hid (HR4.out.g2 (G2.t (ub := ub) g4) hb1 hb2)
            have d0 : w4.cell? ⟨w1.heap.size, 0, none⟩ = some (.int .i64 (r : Int)) := ((G2.t (ub := ub) g4).cell HDL.out.2.2 (by omega) (by omega)).trans HDL.out.1
            have d1 : w4.cell? ⟨w1.heap.size, 1, none⟩ = some (.int .i64 (q : Int)) := ((G2.t (ub := ub) g4).cell HDL.out.2.2 (by omega) (by omega)).trans HDL.out.2.1
            obtain ⟨u0, k0⟩ := HR5.out.c0
            obtain ⟨u1, k1⟩ := HR5.out.c1
            obtain ⟨u2, k2⟩ := HR5.out.c2
            have f0 := HR5.out.f0
            have f1 := HR5.out.f1
            clear HY HT4 HG4 HR4 hs cu g4 HDL
            go_wp2_with fail
            obtain ⟨Z, hZ, q0, q1, q2, HZ2⟩ := HR5.out.fill HG5.out hwb (r : Int) (q : Int) s
            have HTf := HT5.out.fill hhb (r : Int) (q : Int) s
            rw [← hZ] at HTf ⊢
            clear hZ
            refine bodyPost_ret (v := .tuple #[.agg #[.int .i64 (r : Int), .int .i64 (q : Int)], .agg #[.string s], .nilIface]) (by simp [results, Tryz.results90, go_sem, q0, q1, q2]) rfl ?_
            rw [← HP.out]
            exact ⟨HZ2, .inl ⟨_, _, HY2.out, rfl, HTf⟩⟩
          · have HY2 : Hid (rdLf f n (fun r q => inB (L r) q q) 1 p (br, bq) acc x = none) := hid (by rw [HY.out, if_neg (by decide), hs]; rfl)
            have HG5 := hid (HG4.out.trans (G2.t g4))
            have HR5 := hid (HR4.out.g2 (G2.t (ub := ub) g4) hb1 hb2)
            have d0 : w4.cell? ⟨w1.heap.size, 0, none⟩ = some (.int .i64 (r : Int)) := ((G2.t (ub := ub) g4).cell HDL.out.2.2 (by omega) (by omega)).trans HDL.out.1
            have d1 : w4.cell? ⟨w1.heap.size, 1, none⟩ = some (.int .i64 (q : Int)) := ((G2.t (ub := ub) g4).cell HDL.out.2.2 (by omega) (by omega)).trans HDL.out.2.1
            obtain ⟨u0, k0⟩ := HR5.out.c0
            obtain ⟨u1, k1⟩ := HR5.out.c1
            obtain ⟨u2, k2⟩ := HR5.out.c2
            have f0 := HR5.out.f0
            have f1 := HR5.out.f1
            clear HY HT4 HG4 HR4 hs cu g4 HDL
            go_wp2_with fail
            obtain ⟨Z, hZ, q0, q1, q2, HZ2⟩ := HR5.out.fill HG5.out hwb (r : Int) (q : Int) ⟨#[]⟩
            rw [← hZ]
            clear hZ
            refine bodyPost_ret (v := .tuple #[.agg #[.int .i64 (r : Int), .int .i64 (q : Int)], .agg #[.string ⟨#[]⟩], .iface t v]) (by simp [results, Tryz.results90, go_sem, q0, q1, q2]) rfl ?_
            rw [← HP.out]
            exact ⟨HZ2, .inr ⟨HY2.out, _, _, _, _, _, rfl⟩⟩
        · obtain ⟨u0, k0⟩ := HR4.out.c0
          obtain ⟨u1, k1⟩ := HR4.out.c1
          obtain ⟨u2, k2⟩ := HR4.out.c2
          have f0 := HR4.out.f0
          have f1 := HR4.out.f1
          go_wp2_with fail
          obtain ⟨Z, hZ, q0, q1, q2, HZ2⟩ := HR4.out.fill HG4.out hwb (r : Int) (q : Int) ⟨#[]⟩
          have HTf := HT4.out.fill hhb (r : Int) (q : Int) ⟨#[]⟩
          rw [← hZ] at HTf ⊢
          clear hZ
          refine bodyPost_ret (v := .tuple #[.agg #[.int .i64 (r : Int), .int .i64 (q : Int)], .agg #[.string ⟨#[]⟩], .nilIface]) (by simp [results, Tryz.results90, go_sem, q0, q1, q2]) rfl ?_
          rw [← HP.out]
          exact ⟨HZ2, .inl ⟨_, _, HY.out, rfl, HTf⟩⟩
def NxP (EX : Nat → Option Value) (f : Nat → Int) (n x : Nat) (cb : Nat) (a : Option Addr) (c : Nat) (w : World) (e : Ending) (w' : World) : Prop := w.grownBy w' (some cb) ∧
  ((x < n ∧ e = .returned (.tuple #[.int .u8 (f x), .nilIface]) ∧ Cur EX w' cb a n c ((x + 1 : Nat) : Int)) ∨
   (¬ x < n ∧ ∃ (t : TypeId) (v : Value), e = .returned (.tuple #[.int .u8 0, .iface t v]) ∧ Cur EX w' cb a n c (x : Int)))
theorem nextE {EX : Nat → Option Value} (cb B : Nat) (a : Option Addr) (n c x : Nat) (f : Nat → Int) (aT aS aL aE : Addr) (w : World) (hn : n ≤ 1048576) (hs : Seg w a n f) (hcur : Cur EX w cb a n c (x : Int)) (hE : Errs w B aT aS aL aE) :
    Calls Tryz.prog 84 #[.pointer (some ⟨cb, 0, none⟩)] w fun e w' => NxP EX f n x cb a c w e w' := by
  by_cases hx : x < n
  · rcases hs with h | ⟨b, off, rfl, hb, hc⟩
    · omega
    refine (next_ok cb b off n c x (f x) w hn hcur hx (hc x hx)).mono ?_
    rintro e w' ⟨rfl, cu, g⟩
    exact ⟨g, .inl ⟨hx, rfl, cu⟩⟩
  · refine (next_end cb a n c (x : Int) aE w hn hcur (.inr (by omega)) hE.gE).mono ?_
    rintro e w' ⟨rfl, b⟩
    exact ⟨grown_below ⟨rfl, rfl, rfl, Nat.le_refl _, fun _ _ _ => rfl⟩ b, .inr ⟨hx, _, _, rfl, hcur.below b hcur.lt⟩⟩
noncomputable def rdNk (f : Nat → Int) (n x : Nat) : Option (Ky × Nat) := (rdTx f n x 40).bind fun a => if yes (a.1.size ≠ 0 ∧ a.2 < n) = true then some ((a.1, f a.2), a.2 + 1) else none
theorem rdKy_nk (f : Nat → Int) (n : Nat) (before : Ky) (x : Nat) : rdKy f n before x = (rdNk f n x).bind fun a => if yes (cmpK before a.1 < 0) = true then some a else none := by
  unfold rdKy rdNk
  cases h : rdTx f n x 40 with
  | none => rfl
  | some a =>
    simp only [Option.bind_some]
    by_cases h1 : a.1.size ≠ 0 ∧ a.2 < n
    · rw [yes_t h1]
      simp only [if_true, Option.bind_some]
      by_cases h2 : cmpK before (a.1, f a.2) < 0
      · rw [yes_t h2, yes_t ⟨h1.1, h1.2, h2⟩]
      · rw [yes_f h2, yes_f (fun h => h2 h.2.2)]
    · rw [yes_f h1, yes_f (fun h => h1 ⟨h.1, h.2.1⟩)]
      rfl
structure KB (v : World) (b : Nat) : Prop where
  c0 : ∃ u, v.cell? ⟨b, 0, none⟩ = some (.string u)
  c1 : ∃ u, v.cell? ⟨b, 1, none⟩ = some (.int .i64 u)
  f0 : ∀ i, v.frozen? ⟨b, i, none⟩ = false
  lt : b < v.heap.size
section
variable {w v v' : World} {tb B : Nat}
theorem KB.made (w : World) (u : ByteArray) (i : Int) (t : TypeId) : KB (w.alloc (.cells #[.string u, .int .i64 i] t)) w.heap.size :=
  ⟨⟨u, by simp⟩, ⟨i, by simp⟩, fun i => by rw [World.frozen?_alloc_at _ _ _ _ rfl], by simp⟩
theorem KB.gr {b : Nat} (h : KB v b) (g : v.grownBy v' (some tb)) (h1 : b ≠ tb) : KB v' b := by
  have l := h.lt
  have e := g.block b l (fun e => h1 (by injection e))
  obtain ⟨u0, k0⟩ := h.c0
  obtain ⟨u1, k1⟩ := h.c1
  exact ⟨⟨u0, (World.cell?_of_block (a := ⟨b, 0, none⟩) e).trans k0⟩, ⟨u1, (World.cell?_of_block (a := ⟨b, 1, none⟩) e).trans k1⟩, fun i => (World.frozen?_of_block (a := ⟨b, i, none⟩) e).trans (h.f0 i), Nat.lt_of_lt_of_le l g.size⟩
theorem KB.fill {b : Nat} (h : KB v b) (g : w.grownBy v (some tb)) (hb : w.heap.size ≤ b) (s : ByteArray) (i : Int) :
    ∃ Z, Z = (v.setCell ⟨b, 0, none⟩ (.string s)).setCell ⟨b, 1, none⟩ (.int .i64 i) ∧ Z.cell? ⟨b, 0, none⟩ = some (.string s) ∧ Z.cell? ⟨b, 1, none⟩ = some (.int .i64 i) ∧ w.grownBy Z (some tb) ∧ ∀ k, k ≠ b → Z.heap[k]? = v.heap[k]? := by
  obtain ⟨u0, k0⟩ := h.c0
  obtain ⟨u1, k1⟩ := h.c1
  have hblk : ∀ k, k ≠ b → ((v.setCell ⟨b, 0, none⟩ (.string s)).setCell ⟨b, 1, none⟩ (.int .i64 i)).heap[k]? = v.heap[k]? := fun k hk => (Below.heap_setCell _ _ _ _ (by simp; omega)).trans (Below.heap_setCell _ _ _ _ (by simp; omega))
  refine ⟨_, rfl, ?_, ?_, ⟨g.os, g.tape, g.output, by simpa [World.setCell] using g.size, fun k hk hne => (hblk k (by omega)).trans (g.block k hk hne)⟩, hblk⟩
  · rw [World.cell?_setCell_other _ _ _ _ (by simp)]
    exact World.cell?_setCell_same _ _ _ k0
  · exact World.cell?_setCell_same _ _ _ (by rw [World.cell?_setCell_other _ _ _ _ (by simp)]; exact k1)
end
def NkP (EX : Nat → Option Value) (f : Nat → Int) (n x : Nat) (cb : Nat) (a : Option Addr) (c : Nat) (w : World) (e : Ending) (w' : World) : Prop := w.grownBy w' (some cb) ∧
  ((∃ y x', rdNk f n x = some (y, x') ∧ e = .returned (.tuple #[.agg #[.string y.1, .int .i64 y.2], .nilIface]) ∧ Cur EX w' cb a n c ((x' : Nat) : Int)) ∨
   (rdNk f n x = none ∧ ∃ (t : TypeId) (v : Value) (y : Int), e = .returned (.tuple #[.agg #[.string ⟨#[]⟩, .int .i64 0], .iface t v]) ∧ Cur EX w' cb a n c y))
theorem nameAndKindC {EX : Nat → Option Value} (tb B : Nat) (a : Option Addr) (n c : Nat) (f : Nat → Int) (aT aS aL aE : Addr) (x : Nat) (w : World) (hn : n ≤ 1048576) (hnc : n ≤ c) (hcc : c ≤ 4611686018427387904) (hf : Byt f)
    (hs : Seg w a n f) (hcur : Cur EX w tb a n c (x : Int)) (hE : Errs w B aT aS aL aE) (hbt : B ≤ tb) (hab : ∀ y, a = some y → y.block ≠ tb) :
    Calls Tryz.prog 71 #[.pointer (some ⟨tb, 0, none⟩)] w fun e w' => NkP EX f n x tb a c w e w' := by
  obtain ⟨P, hP⟩ : ∃ P, NkP EX f n x tb a c w = P := ⟨_, rfl⟩
  rw [hP]
  have HP := hid hP
  clear hP
  obtain ⟨W, hW⟩ : ∃ W, w.alloc (.cells #[.string ⟨#[]⟩, .int .i64 0] 110) = W := ⟨_, rfl⟩
  have b0 : Below w.heap.size w W := by rw [← hW]; exact (Below.refl _ _).alloc (Nat.le_refl _) _
  have HR0 : Hid (KB W w.heap.size) := hid (by rw [← hW]; exact KB.made _ _ _ _)
  have ht0 := hcur.lt
  have HG0 : Hid (w.grownBy W (some tb)) := hid ⟨b0.os, b0.tape, b0.output, b0.size, fun k hk _ => b0.block k hk⟩
  have HC0 := hid (hcur.below b0 hcur.lt)
  have HS0 := hid (hs.below b0)
  have HE0 := hid (hE.below (b0.mono (Nat.le_trans hbt (Nat.le_of_lt ht0))))
  have HT := hid (textE (EX := EX) tb B a n c x 40 f aT aS aL aE W hn hnc hcc hf HS0.out HC0.out HE0.out hbt hab (by omega) (by omega))
  have HF := hid hf
  have hwt : w.heap.size ≠ tb := by omega
  have hww : w.heap.size ≤ w.heap.size := Nat.le_refl _
  clear hs hcur hE hf b0
  go_enter Tryz.func71, Tryz.ntmps71
  go_wp2_with fail
  try rw [hW]
  clear hW
  refine HT.out.mono ?_
  clear HT
  rintro e w1 ⟨g1, ⟨s, x1, hs, rfl, cu⟩ | ⟨hs, t, v, y, rfl, cu⟩⟩
  · have HG1 := hid (HG0.out.trans g1)
    have HR1 := hid (HR0.out.gr g1 hwt)
    have HC1 := hid cu
    have HE1 := hid (HE0.out.grown g1 hbt HC0.out.lt)
    have HS1 := hid (HS0.out.grown g1 hab)
    have HTx := hid hs
    clear g1 hs cu HG0 HR0 HC0 HS0 HE0
    by_cases h0 : s = ⟨#[]⟩
    · subst h0
      have HN : Hid (rdNk f n x = none) := hid (by unfold rdNk; rw [HTx.out]; simp only [Option.bind_some]; rw [yes_f (fun h => h.1 rfl)]; rfl)
      obtain ⟨ev, ge⟩ := HE1.out.x2
      have lo : 7 < w.heap.size := Nat.lt_of_lt_of_le (Nat.lt_of_lt_of_le (by decide) HE1.out.lG) (Nat.le_trans hbt (Nat.le_of_lt ht0))
      obtain ⟨u0, k0⟩ := HR1.out.c0
      obtain ⟨u1, k1⟩ := HR1.out.c1
      have f0 := HR1.out.f0
      have ge1 : (w1.setCell ⟨w.heap.size, 0, none⟩ (.string ⟨#[]⟩)).cell? ⟨7, 0, none⟩ = some (.iface 233 ev) := by rw [World.cell?_setCell_far _ _ _ _ (by simp; omega)]; exact ge
      have ge2 : ((w1.setCell ⟨w.heap.size, 0, none⟩ (.string ⟨#[]⟩)).setCell ⟨w.heap.size, 1, none⟩ (.int .i64 0)).cell? ⟨7, 0, none⟩ = some (.iface 233 ev) := by rw [World.cell?_setCell_far _ _ _ _ (by simp; omega)]; exact ge1
      clear lo
      go_wp2_with fail
      go_region
      all_goals go_wp2_with fail
      all_goals (
        obtain ⟨Z, hZ, q0, q1, gZ, bZ⟩ := HR1.out.fill HG1.out hww ⟨#[]⟩ 0
        rw [← hZ]
        clear hZ
        refine bodyPost_ret (v := .tuple #[.agg #[.string ⟨#[]⟩, .int .i64 0], .iface 233 ev]) (by simp [results, Tryz.results71, go_sem, q0, q1]) rfl ?_
        rw [← HP.out]
        exact ⟨grown_below gZ (Below.refl _ _).drew, .inr ⟨HN.out, _, _, _, rfl, (HC1.out.at' (bZ tb (Ne.symm hwt))).below (Below.refl _ _).drew (HC1.out.at' (bZ tb (Ne.symm hwt))).lt⟩⟩)
    · have hse : s.toList.isEmpty = false := by
        cases e : s.toList.isEmpty with
        | false => rfl
        | true => exact absurd (emB_empty.1 e) h0
      have HX := hid (nextE (EX := EX) tb B a n c x1 f aT aS aL aE w1 hn HS1.out HC1.out HE1.out)
      have hz : s.size ≠ 0 := fun e => h0 (by
        obtain ⟨d⟩ := s
        have : d = #[] := Array.eq_empty_of_size_eq_zero e
        rw [this])
      go_wp2_with fail
      refine HX.out.mono ?_
      clear HX hse h0
      rintro e w2 ⟨g2, ⟨hx, rfl, cu⟩ | ⟨hx, t, v, rfl, cu⟩⟩
      · have HY : Hid (rdNk f n x = some ((s, f x1), x1 + 1)) := hid (by unfold rdNk; rw [HTx.out]; simp only [Option.bind_some]; rw [yes_t ⟨hz, hx⟩]; rfl)
        have HG2 := hid (HG1.out.trans g2)
        have HR2 := hid (HR1.out.gr g2 hwt)
        have HC2 := hid cu
        obtain ⟨u0, k0⟩ := HR2.out.c0
        obtain ⟨u1, k1⟩ := HR2.out.c1
        have f0 := HR2.out.f0
        obtain ⟨fv0, fv1⟩ := HF.out x1
        clear g2 cu HG1 HR1 HC1 HS1 HE1
        go_wp2_with fail
        obtain ⟨Z, hZ, q0, q1, gZ, bZ⟩ := HR2.out.fill HG2.out hww s (f x1)
        try rw [← hZ]
        clear hZ
        refine bodyPost_ret (v := .tuple #[.agg #[.string s, .int .i64 (f x1)], .nilIface]) (by simp [results, Tryz.results71, go_sem, q0, q1]) rfl ?_
        rw [← HP.out]
        exact ⟨gZ, .inl ⟨_, _, HY.out, rfl, HC2.out.at' (bZ tb (Ne.symm hwt))⟩⟩
      · have HN : Hid (rdNk f n x = none) := hid (by unfold rdNk; rw [HTx.out]; simp only [Option.bind_some]; rw [yes_f (fun h => hx h.2)]; rfl)
        have HG2 := hid (HG1.out.trans g2)
        have HR2 := hid (HR1.out.gr g2 hwt)
        have HC2 := hid cu
        obtain ⟨u0, k0⟩ := HR2.out.c0
        obtain ⟨u1, k1⟩ := HR2.out.c1
        have f0 := HR2.out.f0
        clear g2 cu HG1 HR1 HC1 HS1 HE1
        go_wp2_with fail
        obtain ⟨Z, hZ, q0, q1, gZ, bZ⟩ := HR2.out.fill HG2.out hww ⟨#[]⟩ 0
        rw [← hZ]
        clear hZ
        refine bodyPost_ret (v := .tuple #[.agg #[.string ⟨#[]⟩, .int .i64 0], .iface t v]) (by simp [results, Tryz.results71, go_sem, q0, q1]) rfl ?_
        rw [← HP.out]
        exact ⟨gZ, .inr ⟨HN.out, _, _, _, rfl, HC2.out.at' (bZ tb (Ne.symm hwt))⟩⟩
  · have HN : Hid (rdNk f n x = none) := hid (by unfold rdNk; rw [hs]; rfl)
    have HG1 := hid (HG0.out.trans g1)
    have HR1 := hid (HR0.out.gr g1 hwt)
    have HC1 := hid cu
    obtain ⟨u0, k0⟩ := HR1.out.c0
    obtain ⟨u1, k1⟩ := HR1.out.c1
    have f0 := HR1.out.f0
    clear g1 hs cu HG0 HR0 HC0 HS0 HE0
    go_wp2_with fail
    obtain ⟨Z, hZ, q0, q1, gZ, bZ⟩ := HR1.out.fill HG1.out hww ⟨#[]⟩ 0
    rw [← hZ]
    clear hZ
    refine bodyPost_ret (v := .tuple #[.agg #[.string ⟨#[]⟩, .int .i64 0], .iface t v]) (by simp [results, Tryz.results71, go_sem, q0, q1]) rfl ?_
    rw [← HP.out]
    exact ⟨gZ, .inr ⟨HN.out, _, _, _, rfl, HC1.out.at' (bZ tb (Ne.symm hwt))⟩⟩
end Go.Proofs.YtakmpmhjcngbbaaGreatDoor
