import Derived.Test.YtemfhnnkkmiamaaGreatDoorPcg
import Derived.Test.YtemfhnnkkmiamaaGreatDoorPcj
import Derived.Test.YtemfhnnkkmiamaaGreatDoorPcs
import Derived.Test.YtemfhnnkkmiamaaGreatDoorCards
import Derived.Test.YtemfhnnkkmiamaaGreatDoorPcF
import Derived.Test.YtemfhnnkkmiamaaGreatDoorTie
import Derived.ChangeVars
import Derived.Stop.LaidTwo
import Derived.LaidHandle
import Derived.Deep.DeepHandedRow
import Derived.SevenTiedAt
namespace Go.Proofs.YtemfhnnkkmiamaaGreatDoor.fnExactParseCmd
open Go.ChangeShapes Go.WideShapes Go.ChangeAt Go.RowKit
open Go.ChangeMaps (open_string shut_string)
set_option linter.unusedVariables false
set_option linter.unusedSimpArgs false

set_option maxRecDepth 100000 in
set_option maxHeartbeats 4000000 in
theorem walk (w : World) (s : ByteArray) (m : Int) (hs : s.size ≤ 9223372036854775807) (hm : w.cell? ⟨0, 0, none⟩ = some (.int .i64 m)) :
    Calls Tryz.prog 3 #[.string s] w fun e w' => e = .returned (.bool true) ∧ Below w.heap.size w w' := by
  by_cases hl : s.size ≤ 1048576
  · have hX : ∀ i, (gS (cutW 32 s) i).size ≤ 1048576 := fun i => Nat.le_trans (gS_size i) hl
    have HSP := hid (specParse s w hl)
    have HIM : Hid (∀ w', Below w.heap.size w w' → Calls Tryz.prog 5 #[.string s] w' fun e w'' => RfP w' (pcS s) e w'') := hid (fun w' b => by
      have := implParse s m w' hl hX (Cst.below b _ _ _ hm)
      rw [pcI_eq] at this; exact this)
    obtain ⟨R, hR⟩ : ∃ R, pcS s = R := ⟨_, rfl⟩
    rw [hR] at HSP HIM
    obtain ⟨c, hc⟩ : ∃ c, R.getD Cm.no = c := ⟨_, rfl⟩
    obtain ⟨q, hq⟩ : ∃ q, R.isSome = q := ⟨_, rfl⟩
    unfold RfP at HIM
    rw [hc, hq] at HSP HIM
    have hl' : (s.size : Int) ≤ 1048576 := by omega
    have dq : (q == q) = true := by simp
    clear hX hR hc hq hm hs
    go_enter Tryz.func3, Tryz.ntmps3
    go_wp2_with fail
    refine HSP.out.mono ?_
    rintro e w1 ⟨pa, pc, rfl, s1, b1⟩
    obtain ⟨W1, hW1⟩ : ∃ W1, w1.alloc (.cells #[.string c.w, .int .i64 c.a, .int .i64 c.b, .int .i64 c.n, .int .i64 c.x, .slice pa c.p.length pc, .string c.v] 24) = W1 := ⟨_, rfl⟩
    have d1 : Below w1.heap.size w1 W1 := by rw [← hW1]; exact (Below.refl _ _).alloc (Nat.le_refl _) _
    have X1 : BxL W1 w1.heap.size (cmV c (.slice pa c.p.length pc)) := by rw [← hW1]; exact BxL.made w1 _ _
    have HB1 := hid (keepS b1 d1)
    have HS1 := hid (s1.below d1)
    have HX1 := hid X1
    clear s1 b1 d1 X1 HSP
    go_wp2_with fail
    clear hW1
    refine (HIM.out W1 HB1.out).mono ?_
    rintro e w2 ⟨pv, rfl, b2, hpv⟩
    obtain ⟨qa, qc, rfl, hq1, hq2, hqs⟩ := hpv.form
    have hnp : c.p.length ≤ 4194304 := by omega
    have hN : ∀ x, qa = some x → x.block < w2.heap.size := by
      rintro x rfl
      rcases hpv with ⟨_, h⟩ | ⟨g, k, _, h, _, _, h5⟩
      · cases h
      · cases h; exact h5.lt
    unfold cmA cmV
    obtain ⟨W2, hW2⟩ : ∃ W2, w2.alloc (.cells #[.string c.w, .int .i64 c.a, .int .i64 c.b, .int .i64 c.n, .int .i64 c.x, .slice qa c.p.length qc, .string c.v] 24) = W2 := ⟨_, rfl⟩
    have d2 : Below w2.heap.size w2 W2 := by rw [← hW2]; exact (Below.refl _ _).alloc (Nat.le_refl _) _
    have X2 : BxL W2 w2.heap.size (cmV c (.slice qa c.p.length qc)) := by rw [← hW2]; exact BxL.made w2 _ _
    have HB2 := hid (keepS b2 d2)
    have HX2 := hid X2
    have HP2 := hid (hpv.below d2)
    have HC2 := hid (eqCmdC c qa pa qc pc W2 hnp (hqs.below d2) (HS1.out.below HB2.out))
    have HZ2 : Hid (w2.heap.size ≤ W2.heap.size ∧ W1.heap.size ≤ w2.heap.size) := hid ⟨d2.size, b2.size⟩
    have X1 := HX1.out.below HB2.out
    have k0 := X2.c 0 _ rfl
    have k1 := X2.c 1 _ rfl
    have k2 := X2.c 2 _ rfl
    have k3 := X2.c 3 _ rfl
    have k4 := X2.c 4 _ rfl
    have k5 := X2.c 5 _ rfl
    have k6 := X2.c 6 _ rfl
    have j0 := X1.c 0 _ rfl
    have j1 := X1.c 1 _ rfl
    have j2 := X1.c 2 _ rfl
    have j3 := X1.c 3 _ rfl
    have j4 := X1.c 4 _ rfl
    have j5 := X1.c 5 _ rfl
    have j6 := X1.c 6 _ rfl
    clear X1 X2 b2 d2 hpv hqs hq1 hq2
    go_wp2_with fail
    clear hW2
    refine HC2.out.mono ?_
    rintro e w3 ⟨rfl, b3⟩
    have HB3 := hid (keepS HB2.out b3)
    have X2 := HX2.out.below b3
    have HX3 := hid X2
    have HM3 := hid (markCmdC (B := W1.heap.size) (N := w2.heap.size) c (HP2.out.below b3) hnp hN (Nat.le_trans HZ2.out.1 b3.size))
    clear HC2 b3 HX2 HP2 k0 k1 k2 k3 k4 k5 k6 j0 j1 j2 j3 j4 j5 j6
    have k0 := X2.c 0 _ rfl
    have k1 := X2.c 1 _ rfl
    have k2 := X2.c 2 _ rfl
    have k3 := X2.c 3 _ rfl
    have k4 := X2.c 4 _ rfl
    have k5 := X2.c 5 _ rfl
    have k6 := X2.c 6 _ rfl
    clear X2
    obtain ⟨n1, hn1⟩ : ∃ n1, ((1 + c.p.length : Nat) : Int) = n1 := ⟨_, rfl⟩
    have hn0 : decide (n1 < 0) = false := by simp; omega
    have hnn : (n1 == n1) = true := by simp
    rw [hn1] at HM3
    have HN1 := hid hn1
    clear hn1
    go_wp2_with fail
    refine HM3.out.mono ?_
    rintro e w4 ⟨rfl, b4, hh⟩
    have HB4 : Hid (Below W1.heap.size W1 w4) := hid ⟨b4.os.trans HB3.out.os, b4.tape.trans HB3.out.tape, b4.output.trans HB3.out.output, Nat.le_trans HB3.out.size b4.size, fun g hg => (b4.low g (Nat.lt_of_lt_of_le hg HB3.out.size) hg).trans (HB3.out.block g hg)⟩
    have X4 := b4.box HX3.out (.inr (Nat.le_refl _))
    have HX4 := hid X4
    have HH4 := hid (heldCmdC c hh)
    rw [HN1.out] at HH4
    clear HM3 HX3 b4 hh k0 k1 k2 k3 k4 k5 k6
    have k0 := X4.c 0 _ rfl
    have k1 := X4.c 1 _ rfl
    have k2 := X4.c 2 _ rfl
    have k3 := X4.c 3 _ rfl
    have k4 := X4.c 4 _ rfl
    have k5 := X4.c 5 _ rfl
    have k6 := X4.c 6 _ rfl
    clear X4
    go_wp2_with fail
    refine HH4.out.mono ?_
    rintro e w5 ⟨rfl, b5⟩
    have HB5 := hid (keepS HB4.out b5)
    clear HH4 b5 HX4 k0 k1 k2 k3 k4 k5 k6
    go_wp2_with fail
    refine (HIM.out w5 (keepS HB1.out HB5.out)).mono ?_
    rintro e w6 ⟨pv, rfl, b6, hpv⟩
    obtain ⟨ra, rc, rfl, hq1, hq2, hqs⟩ := hpv.form
    unfold cmA cmV
    obtain ⟨W6, hW6⟩ : ∃ W6, w6.alloc (.cells #[.string c.w, .int .i64 c.a, .int .i64 c.b, .int .i64 c.n, .int .i64 c.x, .slice ra c.p.length rc, .string c.v] 24) = W6 := ⟨_, rfl⟩
    have d6 : Below w6.heap.size w6 W6 := by rw [← hW6]; exact (Below.refl _ _).alloc (Nat.le_refl _) _
    have X6 : BxL W6 w6.heap.size (cmV c (.slice ra c.p.length rc)) := by rw [← hW6]; exact BxL.made w6 _ _
    have HB6 := hid (keepS HB5.out (keepS b6 d6))
    have HC6 := hid (eqCmdC c ra pa rc pc W6 hnp (hqs.below d6) (HS1.out.below HB6.out))
    have X1 := HX1.out.below HB6.out
    have k0 := X6.c 0 _ rfl
    have k1 := X6.c 1 _ rfl
    have k2 := X6.c 2 _ rfl
    have k3 := X6.c 3 _ rfl
    have k4 := X6.c 4 _ rfl
    have k5 := X6.c 5 _ rfl
    have k6 := X6.c 6 _ rfl
    have j0 := X1.c 0 _ rfl
    have j1 := X1.c 1 _ rfl
    have j2 := X1.c 2 _ rfl
    have j3 := X1.c 3 _ rfl
    have j4 := X1.c 4 _ rfl
    have j5 := X1.c 5 _ rfl
    have j6 := X1.c 6 _ rfl
    clear X1 X6 b6 d6 hpv hqs hq1 hq2 HB5 HB4 HB3 HB2
    go_wp2_with fail
    clear hW6
    refine HC6.out.mono ?_
    rintro e w7 ⟨rfl, b7⟩
    have HB7 := hid (keepS HB1.out (keepS HB6.out b7))
    clear HC6 b7 k0 k1 k2 k3 k4 k5 k6 j0 j1 j2 j3 j4 j5 j6
    go_wp2_with fail
    go_ret
    exact ⟨rfl, HB7.out⟩
  · have hl' : (1048576 : Int) < (s.size : Int) := by omega
    go_enter Tryz.func3, Tryz.ntmps3
    go_wp2_with fail
    go_ret
    exact ⟨rfl, Below.refl _ _⟩

theorem La.own : ownKnob Tryz.prog.godebug = none := by kernel_rfl
theorem La.laidOut : laidOutB Tryz.prog = true := by kernel_rfl

theorem int_of_shape {P : Program} {w : World} {g : Nat} {t : TypeId} {q : IntKind} {zero : Array Value} (h : w.ShapedOpen P) (hg : g < P.globals.size)
    (h0 : ((begin P (fun _ _ => 0) default).world.heap[g]?).bind Obj.row? = some (zero, t)) (hz : zero.size = 1)
    (hb : P.buildable t = true) (hc : P.cellTypes P.depth t = some [t]) (hu : P.underlying t = some (.int q)) : ∃ n, w.cell? ⟨g, 0, none⟩ = some (.int q n) := by
  obtain ⟨cs, hh, hs, hr⟩ := h.1 g zero t hg h0
  obtain ⟨ts, hts, _, hall⟩ := hr hb
  rw [hc] at hts
  cases hts
  have h1 : 0 < cs.size := by omega
  obtain ⟨u, hu', hok⟩ := hall 0 cs[0] (by simp [h1])
  have e : u = t := by simpa using hu'.symm
  subst e
  have hcell : w.cell? ⟨g, 0, none⟩ = some cs[0] := by simp [World.cell?, hh, h1]
  rw [hcell]
  unfold Cell.ok at hok
  rw [hu] at hok
  cases hv : cs[0] <;> rw [hv] at hok <;> simp at hok
  obtain ⟨rfl, _⟩ := hok
  exact ⟨_, rfl⟩
theorem trod_iface {H : Type} {enc : TypeId × Value → H} {P : Program} {t : TypeId} {ms : Array (String × TypeId)} (ht : P.underlying t = some (.interface ms)) {W : World} {sp : Nat → Bool} {fuel : Nat} {cs : List Value} {y : DataW H × List MemPlace}
    (h : DataW.trod enc P W 0 sp true fuel t cs = some y) (W' : World) (sp' : Nat → Bool) : DataW.trod enc P W' 0 sp' true fuel t cs = some y := by
  cases fuel with
  | zero => simp [DataW.trod] at h
  | succ n =>
    unfold DataW.trod at h ⊢
    rw [ht] at h ⊢
    match cs, h with
    | [], h => simp at h
    | [v], h => cases v <;> simp at h ⊢ <;> exact h
    | _ :: _ :: _, h => simp at h
theorem var?_below {P : Program} {W W' : World} {n : String} {cs : Array Value} (h : W.var? P n = some cs) (hb : Below W.heap.size W W') : W'.var? P n = some cs := by
  unfold World.var? at h ⊢
  cases hg : P.globalNamed n with
  | none => simp [hg] at h
  | some g =>
    simp only [hg, Option.bind_some] at h ⊢
    have hlt : g < W.heap.size := by
      rcases Nat.lt_or_ge g W.heap.size with h' | h'
      · exact h'
      · simp [Array.getElem?_eq_none h'] at h
    rw [hb.block g hlt]; exact h

theorem vars_below {H : Type} {enc : TypeId × Value → H} {P : Program} {t : TypeId} {ms : Array (String × TypeId)} (ht : P.underlying t = some (.interface ms)) {W W' : World} {sp : Nat → Bool} (hb : Below W.heap.size W W') (sp' : Nat → Bool) :
    ∀ (ns : List String) (gs : List (DataW H)) (q : List MemPlace), (∀ n ∈ ns, (P.globalNamed n).bind (fun g => (P.globals[g]?).map (·.type)) = some t) → DataW.TrodVars enc P W sp ns gs q → DataW.TrodVars enc P W' sp' ns gs q
  | [], [], q, _, h => h
  | [], _ :: _, _, _, h => h.elim
  | _ :: _, [], _, _, h => h.elim
  | n :: ns, d :: ds, q, hn, h => by
    obtain ⟨g, u, cs, fuel, p, q', h1, h2, h3, h4, h5, h6⟩ := h
    have e : u = t := by
      have := hn n (List.mem_cons_self)
      rw [h1, Option.bind_some, h2] at this
      exact Option.some.inj this
    subst e
    exact ⟨g, u, cs, fuel, p, q', h1, h2, var?_below h3 hb, trod_iface ht h4 W' sp', vars_below ht hb sp' ns ds q' (fun m hm => hn m (List.mem_cons_of_mem _ hm)) h5, h6⟩
theorem vars_len {H : Type} {enc : TypeId × Value → H} {P : Program} {W : World} {sp : Nat → Bool} : ∀ {ns : List String} {gs : List (DataW H)} {q : List MemPlace}, DataW.TrodVars enc P W sp ns gs q → gs.length = ns.length
  | [], [], _, _ => rfl
  | [], _ :: _, _, h => h.elim
  | _ :: _, [], _, h => h.elim
  | _ :: _, _ :: _, _, h => by
    obtain ⟨_, _, _, _, _, _, _, _, _, _, h5, _⟩ := h
    simp [vars_len h5]
theorem vars_type : ∀ n ∈ Rows.fnExactParseCmdSpec.vars, (Tryz.prog.globalNamed n).bind (fun g => (Tryz.prog.globals[g]?).map (·.type)) = some 132 := by
  have h : (Rows.fnExactParseCmdSpec.vars.all fun n => decide ((Tryz.prog.globalNamed n).bind (fun g => (Tryz.prog.globals[g]?).map (·.type)) = some 132)) = true := by kernel_rfl
  intro n hn
  exact of_decide_eq_true (List.all_eq_true.1 h n hn)
theorem vars_twenty {H : Type} {enc : TypeId × Value → H} {P : Program} {W : World} {sp : Nat → Bool} {gs : List (DataW H)} {q : List MemPlace} (h : DataW.TrodVars enc P W sp Rows.fnExactParseCmdSpec.vars gs q) : ∃ g1 g2 g3 g4 g5 g6 g7 g8 g9 g10 g11 g12 g13 g14 g15 g16 g17 g18 g19 g20, gs = [g1, g2, g3, g4, g5, g6, g7, g8, g9, g10, g11, g12, g13, g14, g15, g16, g17, g18, g19, g20] := by
  have hl : gs.length = 20 := vars_len h
  match gs, hl with
  | [g1, g2, g3, g4, g5, g6, g7, g8, g9, g10, g11, g12, g13, g14, g15, g16, g17, g18, g19, g20], _ => exact ⟨_, _, _, _, _, _, _, _, _, _, _, _, _, _, _, _, _, _, _, _, rfl⟩
noncomputable def low : Nat := (World.holding Tryz.prog default ⟨#[], #[], []⟩).heap.size
def setAt (h : Array Obj) (g : Nat) (vs : Array Value) : Array Obj := h.modify g fun
  | .cells _ t frozen => .cells vs t frozen
  | o => o
noncomputable def laidWorld (os : Os) : World :=
  let w0 := World.holding Tryz.prog os ⟨#[.cells #[.string ⟨#[116, 104, 101, 32, 98, 121, 116, 101, 115, 32, 101, 110, 100, 32, 116, 111, 111, 32, 101, 97, 114, 108, 121]⟩] 474, .cells #[.string ⟨#[116, 104, 101, 32, 116, 101, 110, 116, 104, 32, 98, 121, 116, 101, 32, 105, 115, 32, 97, 98, 111, 118, 101, 32, 49]⟩] 474, .cells #[.string ⟨#[116, 104, 101, 32, 118, 97, 114, 105, 110, 116, 32, 99, 111, 117, 108, 100, 32, 98, 101, 32, 115, 104, 111, 114, 116, 101, 114]⟩] 474, .cells #[.string ⟨#[116, 104, 101, 32, 108, 101, 110, 103, 116, 104, 32, 105, 115, 32, 97, 98, 111, 118, 101, 32, 116, 104, 101, 32, 108, 105, 109, 105, 116]⟩] 474, .cells #[.string ⟨#[97, 32, 110, 117, 109, 98, 101, 114, 32, 105, 115, 32, 97, 98, 111, 118, 101, 32, 105, 116, 115, 32, 108, 105, 109, 105, 116]⟩] 474, .cells #[.string ⟨#[111, 117, 116, 32, 111, 102, 32, 111, 114, 100, 101, 114]⟩] 474, .cells #[.string ⟨#[97, 32, 114, 101, 112, 108, 105, 99, 97, 32, 104, 97, 115, 32, 110, 111, 32, 114, 117, 110, 115]⟩] 474, .cells #[.string ⟨#[98, 121, 116, 101, 115, 32, 115, 116, 97, 110, 100, 32, 98, 101, 104, 105, 110, 100, 32, 116, 104, 101, 32, 101, 110, 100]⟩] 474, .cells #[.string ⟨#[97, 32, 110, 97, 109, 101, 32, 104, 97, 115, 32, 110, 111, 32, 98, 121, 116, 101, 115]⟩] 474, .cells #[.string ⟨#[116, 104, 101, 114, 101, 32, 105, 115, 32, 110, 111, 32, 115, 117, 99, 104, 32, 107, 105, 110, 100]⟩] 474, .cells #[.string ⟨#[97, 32, 112, 97, 116, 104, 32, 104, 97, 115, 32, 116, 111, 111, 32, 109, 97, 110, 121, 32, 110, 97, 109, 101, 115]⟩] 474, .cells #[.string ⟨#[97, 32, 109, 97, 112, 32, 119, 105, 116, 104, 105, 110, 32, 116, 104, 101, 32, 116, 114, 101, 101, 32, 104, 97, 115, 32, 110, 111, 32, 107, 101, 121, 115]⟩] 474, .cells #[.string ⟨#[97, 32, 114, 101, 103, 105, 115, 116, 101, 114, 32, 111, 114, 32, 102, 108, 97, 103, 32, 104, 97, 115, 32, 110, 111, 32, 108, 101, 97, 118, 101, 115]⟩] 474, .cells #[.string ⟨#[97, 32, 100, 111, 116, 32, 105, 115, 32, 110, 111, 116, 32, 105, 110, 32, 116, 104, 101, 32, 99, 111, 110, 116, 101, 120, 116]⟩] 474, .cells #[.string ⟨#[97, 32, 100, 111, 116, 32, 99, 111, 109, 101, 115, 32, 116, 119, 105, 99, 101]⟩] 474, .cells #[.string ⟨#[116, 104, 101, 32, 114, 101, 112, 108, 105, 99, 97, 32, 105, 115, 32, 110, 111, 116, 32, 118, 97, 108, 105, 100]⟩] 474, .cells #[.string ⟨#[116, 104, 101, 114, 101, 32, 105, 115, 32, 110, 111, 32, 115, 117, 99, 104, 32, 99, 104, 97, 110, 103, 101]⟩] 474, .cells #[.string ⟨#[116, 104, 101, 32, 115, 116, 97, 116, 101, 32, 100, 111, 101, 115, 32, 110, 111, 116, 32, 116, 97, 107, 101, 32, 116, 104, 101, 32, 99, 104, 97, 110, 103, 101]⟩] 474, .cells #[.string ⟨#[97, 32, 104, 101, 108, 108, 111, 32, 104, 97, 115, 32, 97, 110, 111, 116, 104, 101, 114, 32, 108, 101, 110, 103, 116, 104]⟩] 474, .cells #[.string ⟨#[97, 32, 115, 116, 97, 116, 101, 32, 119, 111, 117, 108, 100, 32, 98, 101, 32, 97, 98, 111, 118, 101, 32, 105, 116, 115, 32, 108, 105, 109, 105, 116, 115]⟩] 474], #[], []⟩
  { w0 with heap := setAt (setAt (setAt (setAt (setAt (setAt (setAt (setAt (setAt (setAt (setAt (setAt (setAt (setAt (setAt (setAt (setAt (setAt (setAt (setAt (setAt (setAt (setAt (w0.heap) 8 #[.iface 316 (.agg #[.pointer (some ⟨24, 132, none⟩)])]) 7 #[.int .u8 128, .int .u8 191, .int .u8 160, .int .u8 191, .int .u8 128, .int .u8 159, .int .u8 144, .int .u8 191, .int .u8 128, .int .u8 143, .int .u8 0, .int .u8 0, .int .u8 0, .int .u8 0, .int .u8 0, .int .u8 0, .int .u8 0, .int .u8 0, .int .u8 0, .int .u8 0, .int .u8 0, .int .u8 0, .int .u8 0, .int .u8 0, .int .u8 0, .int .u8 0, .int .u8 0, .int .u8 0, .int .u8 0, .int .u8 0, .int .u8 0, .int .u8 0]) 6 (Go.Pinned.utf8FirstZ.map fun (x : Nat) => Value.int .u8 (x : Int)).toArray) 14 #[.iface 453 (.pointer (some ⟨low + 0, 0, none⟩))]) 20 #[.iface 453 (.pointer (some ⟨low + 1, 0, none⟩))]) 21 #[.iface 453 (.pointer (some ⟨low + 2, 0, none⟩))]) 10 #[.iface 453 (.pointer (some ⟨low + 3, 0, none⟩))]) 15 #[.iface 453 (.pointer (some ⟨low + 4, 0, none⟩))]) 16 #[.iface 453 (.pointer (some ⟨low + 5, 0, none⟩))]) 19 #[.iface 453 (.pointer (some ⟨low + 6, 0, none⟩))]) 11 #[.iface 453 (.pointer (some ⟨low + 7, 0, none⟩))]) 17 #[.iface 453 (.pointer (some ⟨low + 8, 0, none⟩))]) 5 #[.iface 453 (.pointer (some ⟨low + 9, 0, none⟩))]) 13 #[.iface 453 (.pointer (some ⟨low + 10, 0, none⟩))]) 12 #[.iface 453 (.pointer (some ⟨low + 11, 0, none⟩))]) 18 #[.iface 453 (.pointer (some ⟨low + 12, 0, none⟩))]) 22 #[.iface 453 (.pointer (some ⟨low + 13, 0, none⟩))]) 23 #[.iface 453 (.pointer (some ⟨low + 14, 0, none⟩))]) 1 #[.iface 453 (.pointer (some ⟨low + 15, 0, none⟩))]) 2 #[.iface 453 (.pointer (some ⟨low + 16, 0, none⟩))]) 3 #[.iface 453 (.pointer (some ⟨low + 17, 0, none⟩))]) 9 #[.iface 453 (.pointer (some ⟨low + 18, 0, none⟩))]) 4 #[.iface 453 (.pointer (some ⟨low + 19, 0, none⟩))] }
theorem laid_met (os : Os) (args : Array Value) : laidMetH Tryz.prog Rows.fnExactParseCmdRow.laid ((laidWorld os).forCall (fun _ _ => 0) ⟨#[], args, []⟩).memory :=
  laidMetH_of_parts (laidMet_of_run' 8 (by kernel_rfl) (by kernel_rfl)) (by kernel_rfl)
set_option maxRecDepth 100000 in
theorem contract (H : Type) (enc : TypeId × Value → H) (W : World) (base : Nat) (args : Array Value) (ds gs : List (DataW H)) (before : List MemPlace)
    (hval0 : ∀ (j : Nat) t v, Tryz.f3.params[j]? = some t → args[j]? = some v → Value.okWide Tryz.prog W .any base t v)
    (hW : DataW.Whole enc Tryz.prog Tryz.f3.params.toList Rows.fnExactParseCmdSpec.vars false W args.toList ds gs before) (hsh : W.ShapedOpen Tryz.prog) :
    Calls Tryz.prog 3 args W fun e W' => ∃ v, e = .returned v ∧ Rows.fnExactParseCmdSpec.post enc Tryz.prog Tryz.f3 false true false false W args v W' := by
  have hval : ∀ (j : Nat) t v, Tryz.f3.params[j]? = some t → args[j]? = some v → Value.okWide Tryz.prog W .any base t v := hval0
  have hW' := hW
  obtain ⟨p, q, hA0, hV0, rfl, hfz, hnd⟩ := hW
  have hA : DataW.TrodAll enc Tryz.prog W 0 (fun _ => true) true Tryz.f3.params.toList args.toList ds p := hA0
  have vr : ∀ {X : World}, Below W.heap.size W X → ∀ sp : Nat → Bool, DataW.TrodVars enc Tryz.prog X sp Rows.fnExactParseCmdSpec.vars gs q := fun hb sp => vars_below Tryz.underlying132 hb sp _ _ _ vars_type hV0
  obtain ⟨g1, g2, g3, g4, g5, g6, g7, g8, g9, g10, g11, g12, g13, g14, g15, g16, g17, g18, g19, g20, rfl⟩ := vars_twenty hV0
  obtain ⟨m, hm⟩ := int_of_shape (g := 0) (t := 3) (q := .i64) (zero := #[.int .i64 0]) hsh (of_decide_eq_true (by kernel_rfl)) (by kernel_rfl) rfl (by kernel_rfl) (by kernel_rfl) Tryz.underlying3
  rw [Tryz.params3] at hA hval
  obtain ⟨v0, vs0, d0, ds0, p0, q0, hargs, rfl, rfl, h0, r0⟩ := trodAll_cons hA
  obtain ⟨rfl, rfl, rfl⟩ := trodAll_nil r0
  obtain rfl : args = #[v0] := by cases args; simp_all
  obtain ⟨s, rfl, rfl, rfl, ws⟩ := open_string Tryz.underlying9 (hval 0 9 v0 rfl rfl) h0
  clear hA0 hV0 hval0
  refine (walk W s m (by unfold maxLen at ws; omega) hm).mono fun e W' ⟨he, bel⟩ => ?_
  subst he
  exact ⟨_, rfl, _, _, _, [], _, _, hW', trodAll_mk1 (shut_bool Tryz.underlying4 _), (trodAll_cons_mk (shut_string Tryz.underlying9 ws) trodAll_mk0), vr bel _, bel.frame _, fun h => by cases h⟩

set_option maxRecDepth 100000 in
theorem lifted (os : Os) (started : os.Started) (H : Type) (enc : TypeId × Value → H) (F : Stop.Interp) :
    ReturnsInHanded {} Tryz.checked os 3 .any ((OpenSpec.ofChange Rows.fnExactParseCmdSpec).preRow enc Tryz.prog Tryz.f3 Rows.fnExactParseCmdRow.domain false Rows.fnExactParseCmdRow.laid) (((OpenSpec.ofChange Rows.fnExactParseCmdSpec).at F).post enc Tryz.prog Tryz.f3 false true false false) := by
  refine returnsInHanded_of_row (C := Tryz.checked) (s := OpenSpec.ofChange Rows.fnExactParseCmdSpec) La.own started (by kernel_rfl) Tryz.func3
    (witness_row_at (enc := enc) (C := Tryz.checked) false (laidWorld os) #[.string ⟨#[]⟩] rfl (by kernel_rfl) (by kernel_rfl) (by kernel_rfl)
      (OpenSpec.preRow_of_B rfl 8 (by kernel_rfl) (by kernel_rfl) (laid_met os _))) ?_
  intro W base args ds gs before hval hW _ _ _ _ hsh _
  exact contract H enc W base args ds gs before hval hW hsh

theorem said : Rows.FnExactParseCmdSaid :=
  OpenClaim.holds_of_cond 3 Tryz.f3 rfl rfl rfl rfl rfl rfl rfl ⟨rfl, rfl, rfl, rfl, rfl⟩ rfl rfl rfl rfl rfl (by kernel_rfl) Tryz.func3 closed
    (of_decide_eq_true (by kernel_rfl)) (by unfold Func.isWrapper; first | (rw [if_pos (by decide +kernel)]; kernel_rfl) | (rw [if_neg (by decide +kernel)]; exact ⟨rfl, rfl⟩))
    (fun os started H enc _ F => by rw [OpenClaim.pre_eq_preRow]; exact lifted os started H enc F)

theorem plain (f : FuncId) (fn : Func) (hf : Tryz.pinned.checked.prog.funcNamed "loop.example/s02772/laws.FnExactParseCmd" = some f) (hfn : Tryz.pinned.checked.prog.funcs[f]? = some fn) :
    true = Tryz.pinned.checked.prog.looks [] ∧ ∀ (j : Nat) t, fn.params[j]? = some t → Tryz.pinned.checked.prog.wantsStandIn t = false := by
  obtain rfl : f = 3 := Option.some.inj ((show Tryz.prog.funcNamed "loop.example/s02772/laws.FnExactParseCmd" = some 3 by kernel_rfl).symm.trans hf) |>.symm
  obtain rfl : fn = Tryz.f3 := (Option.some.inj (Tryz.func3.symm.trans hfn)).symm
  refine ⟨by kernel_rfl, fun j t ht => ?_⟩
  rw [Tryz.params3] at ht
  have hm := Array.mem_of_getElem? ht
  simp at hm
  subst hm
  exact (show Tryz.prog.wantsStandIn 9 = false by kernel_rfl)
end Go.Proofs.YtemfhnnkkmiamaaGreatDoor.fnExactParseCmd

namespace Go.Proofs.YtemfhnnkkmiamaaGreatDoor

theorem card_goes {p : Pinned} {s : OpenSpec} {c : OpenClaim} (kinds : List LaidKind) (tests : Bool) (har : Bool × String) (lk : Bool)
    (hc : c.holds p s) (hw : c.wfByText s = true) (htie : c.laidByTextAt .later p kinds tests)
    (hst : c.start = .entering) (hnb : c.noBlocks = false ∧ c.again = false) (hm : p.checked.prog.mainIs = some (har.1, har.2.toList)) (hn : (!har.1 && har.2.isEmpty && !lk) = false)
    (hl : ∀ f fn, p.checked.prog.funcNamed c.func = some f → p.checked.prog.funcs[f]? = some fn → lk = p.checked.prog.looks [] ∧ ∀ (j : Nat) t, fn.params[j]? = some t → p.checked.prog.wantsStandIn t = false)
    (hg : true = c.goesBy p.checked.prog) :
    Claim7.holds p (.plain s) { stood := { row := c, standIns := [], harness := har, looks := lk }, kinds := [], alts := [], goes := true, laidByText := true, laidKinds := kinds, laidTests := tests, laidLooks := .later } := by
  have h6 : Claim7.isSixth { stood := { row := c, standIns := [], harness := har, looks := lk }, kinds := [] } = false := by simpa [Claim7.isSixth] using hn
  exact ⟨Claim7.tied_new_at .later kinds tests (Claim7.new_of_sixth hc har lk hst hnb hm h6 hl) hw, (fun D hD => by cases hD), htie, (fun h => by cases h), hg⟩
theorem parseCmdCard : Rows.FnExactParseCmdCardSaid :=
  card_goes _ _ (true, "717942aef455f16434fe58477b31748c7d6452359c188c729dbceead2513718d") true fnExactParseCmd.said (by kernel_rfl) fnExactParseCmd_row_tie rfl ⟨rfl, rfl⟩ (by kernel_rfl) rfl fnExactParseCmd.plain (by kernel_rfl)
#print axioms parseCmdCard
end Go.Proofs.YtemfhnnkkmiamaaGreatDoor
