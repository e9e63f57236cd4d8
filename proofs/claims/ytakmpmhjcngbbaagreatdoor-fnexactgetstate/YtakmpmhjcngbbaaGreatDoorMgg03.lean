import Derived.Test.YtakmpmhjcngbbaaGreatDoorMgg02
import Derived.Deep.QuietTactic
import Derived.BigQuiet
set_option linter.unusedVariables false
set_option linter.unusedSimpArgs false
set_option maxRecDepth 100000
set_option maxHeartbeats 40000000
namespace Go.Proofs.YtakmpmhjcngbbaaGreatDoor
open Go.ChangeShapes Go.WideShapes Go.ChangeAt Go.RowKit
variable {EX : Nat → Option Value}
structure Errs (w : World) (B : Nat) (aT aS aL aE : Addr) : Prop where
  gT : w.cell? ⟨11, 0, none⟩ = some (.iface 233 (.pointer (some aT)))
  gS : w.cell? ⟨12, 0, none⟩ = some (.iface 233 (.pointer (some aS)))
  gE : w.cell? ⟨10, 0, none⟩ = some (.iface 233 (.pointer (some aE)))
  nTS : aT ≠ aS
  nTE : aT ≠ aE
  nSE : aS ≠ aE
  bT : ∃ c t, w.heap[aT.block]? = some (.cells c t (0, 0))
  bS : ∃ c t, w.heap[aS.block]? = some (.cells c t (0, 0))
  bE : ∃ c t, w.heap[aE.block]? = some (.cells c t (0, 0))
  gM : ∃ v, w.cell? ⟨4, 0, none⟩ = some (.iface 233 v)
  gO : ∃ v, w.cell? ⟨5, 0, none⟩ = some (.iface 233 v)
  gN : ∃ v, w.cell? ⟨9, 0, none⟩ = some (.iface 233 v)
  x0 : ∃ v, w.cell? ⟨0, 0, none⟩ = some (.iface 233 v)
  x1 : ∃ v, w.cell? ⟨1, 0, none⟩ = some (.iface 233 v)
  x2 : ∃ v, w.cell? ⟨7, 0, none⟩ = some (.iface 233 v)
  x3 : ∃ v, w.cell? ⟨6, 0, none⟩ = some (.iface 233 v)
  x4 : ∃ v, w.cell? ⟨3, 0, none⟩ = some (.iface 233 v)
  x5 : ∃ v, w.cell? ⟨2, 0, none⟩ = some (.iface 233 v)
  x6 : ∃ v, w.cell? ⟨8, 0, none⟩ = some (.iface 233 v)
  x7 : ∃ v, w.cell? ⟨13, 0, none⟩ = some (.iface 233 v)
  x8 : ∃ v, w.cell? ⟨14, 0, none⟩ = some (.iface 233 v)
  lG : 15 ≤ B
  lT : aT.block < B
  lS : aS.block < B
  lE : aE.block < B
theorem Errs.below {w w' : World} {B : Nat} {aT aS aL aE : Addr} (h : Errs w B aT aS aL aE) (hb : Below B w w') : Errs w' B aT aS aL aE := by
  have hg := h.lG
  exact { gT := (hb.cell (p := ⟨11, 0, none⟩) (Nat.lt_of_lt_of_le (by decide) hg)).trans h.gT
          gS := (hb.cell (p := ⟨12, 0, none⟩) (Nat.lt_of_lt_of_le (by decide) hg)).trans h.gS
          gE := (hb.cell (p := ⟨10, 0, none⟩) (Nat.lt_of_lt_of_le (by decide) hg)).trans h.gE
          nTS := h.nTS, nTE := h.nTE, nSE := h.nSE
          bT := by rw [hb.block _ h.lT]; exact h.bT
          bS := by rw [hb.block _ h.lS]; exact h.bS
          bE := by rw [hb.block _ h.lE]; exact h.bE
          gM := by obtain ⟨v, hv⟩ := h.gM; exact ⟨v, (hb.cell (p := ⟨4, 0, none⟩) (Nat.lt_of_lt_of_le (by decide) hg)).trans hv⟩
          gO := by obtain ⟨v, hv⟩ := h.gO; exact ⟨v, (hb.cell (p := ⟨5, 0, none⟩) (Nat.lt_of_lt_of_le (by decide) hg)).trans hv⟩
          gN := by obtain ⟨v, hv⟩ := h.gN; exact ⟨v, (hb.cell (p := ⟨9, 0, none⟩) (Nat.lt_of_lt_of_le (by decide) hg)).trans hv⟩
          x0 := by obtain ⟨v, hv⟩ := h.x0; exact ⟨v, (hb.cell (p := ⟨0, 0, none⟩) (Nat.lt_of_lt_of_le (by decide) hg)).trans hv⟩
          x1 := by obtain ⟨v, hv⟩ := h.x1; exact ⟨v, (hb.cell (p := ⟨1, 0, none⟩) (Nat.lt_of_lt_of_le (by decide) hg)).trans hv⟩
          x2 := by obtain ⟨v, hv⟩ := h.x2; exact ⟨v, (hb.cell (p := ⟨7, 0, none⟩) (Nat.lt_of_lt_of_le (by decide) hg)).trans hv⟩
          x3 := by obtain ⟨v, hv⟩ := h.x3; exact ⟨v, (hb.cell (p := ⟨6, 0, none⟩) (Nat.lt_of_lt_of_le (by decide) hg)).trans hv⟩
          x4 := by obtain ⟨v, hv⟩ := h.x4; exact ⟨v, (hb.cell (p := ⟨3, 0, none⟩) (Nat.lt_of_lt_of_le (by decide) hg)).trans hv⟩
          x5 := by obtain ⟨v, hv⟩ := h.x5; exact ⟨v, (hb.cell (p := ⟨2, 0, none⟩) (Nat.lt_of_lt_of_le (by decide) hg)).trans hv⟩
          x6 := by obtain ⟨v, hv⟩ := h.x6; exact ⟨v, (hb.cell (p := ⟨8, 0, none⟩) (Nat.lt_of_lt_of_le (by decide) hg)).trans hv⟩
          x7 := by obtain ⟨v, hv⟩ := h.x7; exact ⟨v, (hb.cell (p := ⟨13, 0, none⟩) (Nat.lt_of_lt_of_le (by decide) hg)).trans hv⟩
          x8 := by obtain ⟨v, hv⟩ := h.x8; exact ⟨v, (hb.cell (p := ⟨14, 0, none⟩) (Nat.lt_of_lt_of_le (by decide) hg)).trans hv⟩
          lG := h.lG, lT := h.lT, lS := h.lS, lE := h.lE }
def Cur (EX : Nat → Option Value) (w : World) (cb : Nat) (a : Option Addr) (n c : Nat) (x : Int) : Prop := w.cell? ⟨cb, 0, none⟩ = some (.slice a n c) ∧ w.cell? ⟨cb, 1, none⟩ = some (.int .i64 x) ∧ w.frozen? ⟨cb, 1, none⟩ = false ∧ ∀ i, 2 ≤ i → w.cell? ⟨cb, i, none⟩ = EX i ∧ w.frozen? ⟨cb, i, none⟩ = false
theorem Cur.lt {w : World} {cb : Nat} {a : Option Addr} {n c : Nat} {x : Int} (h : Cur EX w cb a n c x) : cb < w.heap.size := by
  rcases Nat.lt_or_ge cb w.heap.size with h1 | h1
  · exact h1
  · have := h.1; simp [World.cell?, Array.getElem?_eq_none h1] at this
theorem Cur.below {w w' : World} {B cb : Nat} {a : Option Addr} {n c : Nat} {x : Int} (h : Cur EX w cb a n c x) (hb : Below B w w') (hB : cb < B) : Cur EX w' cb a n c x :=
  ⟨(hb.cell (p := ⟨cb, 0, none⟩) hB).trans h.1, (hb.cell (p := ⟨cb, 1, none⟩) hB).trans h.2.1, (hb.frozen (p := ⟨cb, 1, none⟩) hB).trans h.2.2.1, fun i hi => ⟨(hb.cell (p := ⟨cb, i, none⟩) hB).trans (h.2.2.2 i hi).1, (hb.frozen (p := ⟨cb, i, none⟩) hB).trans (h.2.2.2 i hi).2⟩⟩
theorem Cur.set {w : World} {cb : Nat} {a : Option Addr} {n c : Nat} {x : Int} (h : Cur EX w cb a n c x) (y : Int) : Cur EX (w.setCell ⟨cb, 1, none⟩ (.int .i64 y)) cb a n c y := by
  obtain ⟨h1, h2, h3, h4⟩ := h
  refine ⟨?_, ?_, ?_, fun i hi => ?_⟩
  · simp [World.cell?_setCell_other, h1]
  · exact World.cell?_setCell_same _ _ _ h2
  · rw [World.frozen?_setCell]; exact h3
  · rw [World.cell?_setCell_other _ _ _ _ (by intro e; injection e with _ e; omega), World.frozen?_setCell]; exact h4 i hi
theorem Cur.at' {w w' : World} {cb : Nat} {a : Option Addr} {n c : Nat} {x : Int} (h : Cur EX w cb a n c x) (hb : w'.heap[cb]? = w.heap[cb]?) : Cur EX w' cb a n c x :=
  ⟨(World.cell?_of_block (a := ⟨cb, 0, none⟩) hb).trans h.1, (World.cell?_of_block (a := ⟨cb, 1, none⟩) hb).trans h.2.1, (World.frozen?_of_block (a := ⟨cb, 1, none⟩) hb).trans h.2.2.1, fun i hi => ⟨(World.cell?_of_block (a := ⟨cb, i, none⟩) hb).trans (h.2.2.2 i hi).1, (World.frozen?_of_block (a := ⟨cb, i, none⟩) hb).trans (h.2.2.2 i hi).2⟩⟩
theorem grown_set {w w1 : World} {cb i : Nat} (h : w.grownBy w1 none) (v : Value) : w.grownBy (w1.setCell ⟨cb, i, none⟩ v) (some cb) := by
  refine ⟨h.os, h.tape, h.output, ?_, fun k hk hne => ?_⟩
  · have := h.size; simpa [World.setCell] using this
  · exact (Below.heap_setCell _ _ _ _ (fun e => hne (by rw [e]))).trans (h.block k hk (by simp))
theorem grown_drewN (w : World) (n : Nat) (row : Option Nat) : w.grownBy (w.drewN n) row := ⟨rfl, rfl, rfl, Nat.le_refl _, fun _ _ _ => rfl⟩
theorem below_drewN {B : Nat} {a w : World} (h : Below B a w) (n : Nat) : Below B a (w.drewN n) := ⟨h.os, h.tape, h.output, h.size, h.block⟩
theorem next_end (cb : Nat) (a : Option Addr) (n c : Nat) (x : Int) (aE : Addr) (w : World) (hn : n ≤ 1048576) (hcur : Cur EX w cb a n c x) (hx : x < 0 ∨ (n : Int) ≤ x) (hg : w.cell? ⟨10, 0, none⟩ = some (.iface 233 (.pointer (some aE)))) :
    Calls Tryz.prog 84 #[.pointer (some ⟨cb, 0, none⟩)] w fun e w' => e = .returned (.tuple #[.int .u8 0, .iface 233 (.pointer (some aE))]) ∧ Below w.heap.size w w' := by
  obtain ⟨k0, k1, k2, _⟩ := hcur
  by_cases h0 : x < 0
  · go_enter Tryz.func84, Tryz.ntmps84
    go_wp2_with fail
    go_quiet (fail)
    go_wp2_with fail
    go_quiet (fail)
    go_wp2_with fail
    go_ret2
    exact ⟨rfl, by simp; exact below_drewN (Below.refl _ _) _⟩
  · have h1 : (n : Int) ≤ x := by omega
    have hd : decide (x < 0) = false := by simpa using h0
    go_enter Tryz.func84, Tryz.ntmps84
    go_wp2_with fail
    go_quiet (fail)
    go_wp2_with fail
    go_quiet (fail)
    go_wp2_with fail
    go_ret2
    exact ⟨rfl, by simp; exact below_drewN (Below.refl _ _) _⟩
theorem next_ok (cb b off n c p : Nat) (z : Int) (w : World) (hn : n ≤ 1048576) (hcur : Cur EX w cb (some ⟨b, off, none⟩) n c (p : Int)) (hp : p < n) (hc : w.cell? ⟨b, off + p, none⟩ = some (.int .u8 z)) :
    Calls Tryz.prog 84 #[.pointer (some ⟨cb, 0, none⟩)] w fun e w' => e = .returned (.tuple #[.int .u8 z, .nilIface]) ∧ Cur EX w' cb (some ⟨b, off, none⟩) n c ((p + 1 : Nat) : Int) ∧ w.grownBy w' (some cb) := by
  have HC := hid hcur
  obtain ⟨k0, k1, k2, _⟩ := hcur
  have hd : decide ((p : Int) < 0) = false := by simp
  have h1 : decide ((n : Int) ≤ (p : Int)) = false := by simp; omega
  have hp0 : (0 : Int) ≤ (p : Int) := Int.natCast_nonneg _
  have hpn : (p : Int) < (n : Int) := by omega
  go_enter Tryz.func84, Tryz.ntmps84
  go_wp2_with fail
  go_quiet (fail)
  go_wp2_with fail
  go_quiet (fail)
  go_wp2_with fail
  go_ret2
  refine ⟨rfl, ?_, ?_⟩
  · first | exact HC.out.set _ | (simp; exact HC.out.set _)
  · first | exact grown_set (grown_drewN _ _ _) _ | (simp; exact grown_set (grown_drewN _ _ _) _)
theorem vb_ok (z j : Nat) (w : World) (hz : z < 256) (h9 : 9 ≤ j → z ≤ 1) (h0 : 0 < j → 0 < z) (hj : j ≤ 9) :
    Calls Tryz.prog 85 #[.int .u8 (z : Int), .int .i64 (j : Int)] w fun e w' => e = .returned .nilIface ∧ w' = w := by
  by_cases hj9 : 9 ≤ j
  · have hz1 := h9 hj9
    have hz0 := h0 (by omega)
    clear h9 h0
    go_enter Tryz.func85, Tryz.ntmps85
    go_wp2_with fail
    go_ret
    exact ⟨rfl, rfl⟩
  · by_cases hj0 : 0 < j
    · have hz0 := h0 hj0
      clear h9 h0
      go_enter Tryz.func85, Tryz.ntmps85
      go_wp2_with fail
      go_ret
      exact ⟨rfl, rfl⟩
    · clear h9 h0
      go_enter Tryz.func85, Tryz.ntmps85
      go_wp2_with fail
      go_ret
      exact ⟨rfl, rfl⟩
theorem vb_tenth (z j : Nat) (aT : Addr) (w : World) (hz : z < 256) (hz1 : 1 < z) (hj9 : 9 ≤ j) (hj : j ≤ 9) (hg : w.cell? ⟨11, 0, none⟩ = some (.iface 233 (.pointer (some aT)))) :
    Calls Tryz.prog 85 #[.int .u8 (z : Int), .int .i64 (j : Int)] w fun e w' => e = .returned (.iface 233 (.pointer (some aT))) ∧ w' = w := by
  go_enter Tryz.func85, Tryz.ntmps85
  go_wp2_with fail
  go_ret
  exact ⟨rfl, rfl⟩
theorem vb_short (z j : Nat) (aS : Addr) (w : World) (hz : z ≤ 0) (hj : 0 < j) (hj9 : j ≤ 9) (hg : w.cell? ⟨12, 0, none⟩ = some (.iface 233 (.pointer (some aS)))) :
    Calls Tryz.prog 85 #[.int .u8 (z : Int), .int .i64 (j : Int)] w fun e w' => e = .returned (.iface 233 (.pointer (some aS))) ∧ w' = w := by
  by_cases h9 : 9 ≤ j
  · go_enter Tryz.func85, Tryz.ntmps85
    go_wp2_with fail
    go_ret
    exact ⟨rfl, rfl⟩
  · go_enter Tryz.func85, Tryz.ntmps85
    go_wp2_with fail
    go_ret
    exact ⟨rfl, rfl⟩
variable {EX : Nat → Option Value}
def Plc (w : World) (pb : Nat) (x : Int) (u : Value) : Prop := w.cell? ⟨pb, 1, none⟩ = some (.int .i64 x) ∧ w.cell? ⟨pb, 2, none⟩ = some u ∧ pb < w.heap.size
theorem grown_trans {w w1 w2 : World} {cb : Nat} (h1 : w.grownBy w1 (some cb)) (h2 : w1.grownBy w2 (some cb)) : w.grownBy w2 (some cb) :=
  h1.andThen h2 (fun j hj => .inr hj)
theorem grown_below {w w1 w2 : World} {cb : Nat} (h1 : w.grownBy w1 (some cb)) (h2 : Below w1.heap.size w1 w2) : w.grownBy w2 (some cb) :=
  grown_trans h1 ⟨h2.os, h2.tape, h2.output, h2.size, fun k hk _ => h2.block k hk⟩
theorem grown_refl (w : World) (row : Option Nat) : w.grownBy w row := ⟨rfl, rfl, rfl, Nat.le_refl _, fun _ _ _ => rfl⟩
theorem uvOut (cb B : Nat) (a : Option Addr) (n c : Nat) (x : Int) (aT aS aL aE : Addr) (w : World) (hn : n ≤ 1048576) (hcur : Cur EX w cb a n c x) (hx : x < 0 ∨ (n : Int) ≤ x) (hE : Errs w B aT aS aL aE) :
    Calls Tryz.prog 70 #[.pointer (some ⟨cb, 0, none⟩)] w fun e w' => ∃ pb, e = .returned (.tuple #[.int .u64 0, .iface 80 (.pointer (some ⟨pb, 0, none⟩))]) ∧ w.heap.size ≤ pb ∧ Plc w' pb x (.iface 233 (.pointer (some aE))) ∧ Below w.heap.size w w' := by
  have HC := hid hcur
  have HE := hid hE
  obtain ⟨k0, k1, k2, _⟩ := hcur
  clear hE
  go_enter Tryz.func70, Tryz.ntmps70
  go_wp2_with fail
  refine wp_loop_rounds 1 ?_
  rw [rounds_succ]
  go_wp2_with fail
  refine (next_end cb a n c x aE _ hn HC.out hx HE.out.gE).mono ?_
  rintro e w1 ⟨rfl, b1⟩
  have z1 := b1.size
  have HB1 := hid b1
  clear b1
  go_wp2_with fail
  go_ret2
  refine ⟨_, rfl, z1, ⟨by simp, by simp, by simp⟩, HB1.out.alloc z1 _⟩
theorem and127b (z : Nat) (h : z < 256) : bits BinOp.and IntKind.u8 (z : Int) 127 = ((z % 128 : Nat) : Int) := by
  have := u8_and_nat z 127 (by omega) (by omega)
  rw [show (127 : Nat) = 2 ^ 7 - 1 from rfl, Nat.and_two_pow_sub_one_eq_mod] at this
  exact this
theorem or_add (x y j : Nat) (hx : x < 128 ^ j) (h : x + y * 128 ^ j < 18446744073709551616) : bits BinOp.or IntKind.u64 (x : Int) ((y * 128 ^ j : Nat) : Int) = ((x + y * 128 ^ j : Nat) : Int) := by
  have e := u64_or_nat x (y * 128 ^ j) (by omega) (by omega)
  have e2 : x ||| (y * 128 ^ j) = x + y * 128 ^ j := by
    have e128 : 128 ^ j = 2 ^ (7 * j) := by rw [Nat.pow_mul]
    rw [e128] at hx ⊢
    have := Nat.two_pow_add_eq_or_of_lt (i := 7 * j) (b := x) hx y
    rw [Nat.or_comm, Nat.mul_comm y]; omega
  rw [e2] at e
  exact e
variable {EX : Nat → Option Value}
def adr (aT aS aE : Addr) (k : Nat) : Addr := if k = 1 then aE else if k = 2 then aT else aS
theorem shl_step (x z j : Nat) (hz : z < 256) (hx : x < 128 ^ j) (h : x + z % 128 * 128 ^ j < 18446744073709551616) :
    bits BinOp.or IntKind.u64 (x : Int) (IntKind.u64.wrap (IntKind.u64.wrap (bits BinOp.and IntKind.u8 (z : Int) 127) * 2 ^ (7 * j))) = ((x + z % 128 * 128 ^ j : Nat) : Int) := by
  have e1 : ((2 : Int) ^ (7 * j)) = ((128 ^ j : Nat) : Int) := by
    rw [Int.pow_mul]; push_cast; rfl
  have e2 : IntKind.u64.wrap ((z % 128 : Nat) : Int) = ((z % 128 : Nat) : Int) := by rw [IntKind.wrap_u64]; omega
  have e3 : ((z % 128 : Nat) : Int) * ((128 ^ j : Nat) : Int) = ((z % 128 * 128 ^ j : Nat) : Int) := by push_cast; rfl
  have e4 : IntKind.u64.wrap ((z % 128 * 128 ^ j : Nat) : Int) = ((z % 128 * 128 ^ j : Nat) : Int) := by
    obtain ⟨q, hq⟩ : ∃ q : Nat, q = z % 128 * 128 ^ j := ⟨_, rfl⟩
    rw [← hq] at h ⊢
    rw [IntKind.wrap_u64]; omega
  rw [and127b z hz, e1, e2, e3, e4]
  exact or_add x (z % 128) j hx h
theorem sumF_step {f : Nat → Int} {p j z : Nat} (hz : f (p + j) = (z : Int)) : sumF f p (j + 1) = sumF f p j + z % 128 * 128 ^ j := by
  show sumF f p j + _ = _
  rw [hz]; congr 2
theorem uvIn (cb B b off n c p m : Nat) (f : Nat → Int) (aT aS aL aE : Addr) (w : World) (hn : n ≤ 1048576) (hf : Byt f) (hcur : Cur EX w cb (some ⟨b, off, none⟩) n c (p : Int)) (hp : p < n) (hm : Cnt f n p m) (hE : Errs w B aT aS aL aE) (hBc : B ≤ cb) (hbc : b ≠ cb) (hb : b < w.heap.size)
    (hc : ∀ i, i < n → w.cell? ⟨b, off + i, none⟩ = some (.int .u8 (f i))) :
    Calls Tryz.prog 70 #[.pointer (some ⟨cb, 0, none⟩)] w fun e w' => w.grownBy w' (some cb) ∧ ((guC f n p m = 0 ∧ e = .returned (.tuple #[.int .u64 (guV f n p m : Int), .nilIface]) ∧ Cur EX w' cb (some ⟨b, off, none⟩) n c (guA f n p m : Int)) ∨
      (guC f n p m ≠ 0 ∧ ∃ pb, e = .returned (.tuple #[.int .u64 0, .iface 80 (.pointer (some ⟨pb, 0, none⟩))]) ∧ w.heap.size ≤ pb ∧ Plc w' pb (p : Int) (.iface 233 (.pointer (some (adr aT aS aE (guC f n p m))))) ∧ ∃ x, Cur EX w' cb (some ⟨b, off, none⟩) n c x)) := by
  have HC := hid hcur
  have HE := hid hE
  have HCn := hid hm
  have HCC := hid hc
  have hm9 := hm.1
  have hcl := hcur.lt
  have hBw : B ≤ w.heap.size := by omega
  obtain ⟨k0, k1, k2, _⟩ := hcur
  clear hE hm hc
  go_enter Tryz.func70, Tryz.ntmps70
  go_wp2_with fail
  go_loopw [5, 6] (fun v i wr => ∃ (j x : Nat), j ≤ m ∧ Hid (x = sumF f p j) ∧ i = .int .i64 (j : Int) ∧ v = .int .u64 (x : Int) ∧ Hid (Cur EX wr cb (some ⟨b, off, none⟩) n c ((p + j : Nat) : Int)) ∧ Hid (w.grownBy wr (some cb))) (fun _ i _ => m - (intOf i).toNat)
  case atStart => exact ⟨0, 0, Nat.zero_le _, hid rfl, rfl, rfl, HC, hid (grown_refl _ _)⟩
  case round =>
    clear k0 k1 k2
    obtain ⟨j, x, hj, hx, rfl, rfl, hcu, hgr⟩ := hrel
    have hBB := hid ((Below.refl B w).grown hgr.out hBw (fun k hk => by injection hk with hk; omega))
    have hEr := hid (HE.out.below hBB.out)
    by_cases hpj : p + j < n
    · obtain ⟨z, hz⟩ : ∃ z : Nat, f (p + j) = (z : Int) := ⟨(f (p + j)).toNat, by have := (hf (p + j)).1; omega⟩
      have hz8 : z < 256 := by have := (hf (p + j)).2; omega
      have hcz : Hid (wr.cell? ⟨b, off + (p + j), none⟩ = some (.int .u8 (z : Int))) := by
        show _ = _
        rw [World.cell?_of_block (hgr.out.block b hb (by simp; omega)), HCC.out _ hpj, hz]
      have HZ := hid hz
      clear hz
      go_wp2_with fail
      refine (next_ok cb b off n c (p + j) (z : Int) _ hn hcu.out hpj hcz.out).mono ?_
      rintro e w1 ⟨rfl, cu1, g1⟩
      have hcu1 := hid cu1
      have hgr1 := hid (grown_trans hgr.out g1)
      clear cu1 g1
      by_cases hlt : j < m
      · have hz128 : 128 ≤ z := by have := (HCn.out.2.1 j hlt).2; rw [HZ.out] at this; omega
        have hj8 : j ≤ 8 := by omega
        go_wp2_with fail
        refine (vb_ok z j _ hz8 (by omega) (by omega) (by omega)).mono ?_
        rintro e w2 ⟨rfl, rfl⟩
        have hstep := hid (shl_step x z j hz8 (by rw [hx.out]; exact sumF_lt hf p j) (by
          have h1 := sumF_lt hf p (j + 1)
          rw [sumF_step HZ.out, ← hx.out] at h1
          have h2 := pow9 (k := j + 1) (by omega)
          omega))
        go_wp2_with fail
        refine ⟨⟨j + 1, x + z % 128 * 128 ^ j, hlt, hid (by rw [sumF_step HZ.out, hx.out]), by go_num, by rw [hstep.out], ?_, hgr1⟩, by simp [intOf]; omega⟩
        have e : p + j + 1 = p + (j + 1) := by omega
        rw [← e]; exact hcu1
      · obtain rfl : j = m := by omega
        by_cases hc2 : 9 ≤ j ∧ 1 < z
        · have hC2 : Hid (guC f n p j = 2) := by show _ = _; unfold guC; rw [if_neg (by omega), if_pos ⟨by omega, by rw [HZ.out]; omega⟩]
          obtain ⟨h9, hz1⟩ := hc2
          have hE1 := hid (HE.out.below ((Below.refl B w).grown hgr1.out hBw (fun k hk => by injection hk with hk; omega)))
          go_wp2_with fail
          refine (vb_tenth z j aT _ hz8 hz1 h9 hm9 hE1.out.gT).mono ?_
          rintro e w2 ⟨rfl, rfl⟩
          go_wp2_with fail
          go_ret2
          refine ⟨grown_below hgr1.out ((Below.refl _ _).alloc (Nat.le_refl _) _), .inr ⟨by rw [hC2.out]; omega, _, rfl, hgr1.out.size, ⟨by simp, by rw [hC2.out]; simp [adr], by simp⟩, _, hcu1.out.below ((Below.refl _ _).alloc (Nat.le_refl _) _) hcu1.out.lt⟩⟩
        by_cases hc3 : 0 < j ∧ z ≤ 0
        · have hC2 : Hid (guC f n p j = 3) := by show _ = _; unfold guC; rw [if_neg (by omega), if_neg (by rw [HZ.out]; omega), if_pos ⟨by omega, by rw [HZ.out]; omega⟩]
          obtain ⟨h0, hz0⟩ := hc3
          have hE1 := hid (HE.out.below ((Below.refl B w).grown hgr1.out hBw (fun k hk => by injection hk with hk; omega)))
          go_wp2_with fail
          refine (vb_short z j aS _ hz0 h0 hm9 hE1.out.gS).mono ?_
          rintro e w2 ⟨rfl, rfl⟩
          go_wp2_with fail
          go_ret2
          refine ⟨grown_below hgr1.out ((Below.refl _ _).alloc (Nat.le_refl _) _), .inr ⟨by rw [hC2.out]; omega, _, rfl, hgr1.out.size, ⟨by simp, by rw [hC2.out]; simp [adr], by simp⟩, _, hcu1.out.below ((Below.refl _ _).alloc (Nat.le_refl _) _) hcu1.out.lt⟩⟩
        have hC0 : Hid (guC f n p j = 0) := by show _ = _; unfold guC; rw [if_neg (by omega), if_neg (by rw [HZ.out]; omega), if_neg (by rw [HZ.out]; omega)]
        have hV : Hid (guV f n p j = x + z % 128 * 128 ^ j) := by show _ = _; unfold guV; rw [if_pos hC0.out, sumF_step HZ.out, hx.out]
        have hA : Hid (guA f n p j = p + j + 1) := by show _ = _; unfold guA; rw [if_pos hC0.out]
        have hz128 : z < 128 := by
          by_cases h9 : 9 ≤ j
          · omega
          · have := HCn.out.2.2 hpj (by omega); rw [HZ.out] at this; omega
        have hstep := hid (shl_step x z j hz8 (by rw [hx.out]; exact sumF_lt hf p j) (by
          have h1 := sumF_64 hf p j (by omega) (fun h => by rw [HZ.out]; omega) (j + 1) (by omega)
          rw [sumF_step HZ.out, ← hx.out] at h1
          exact h1))
        go_wp2_with fail
        refine (vb_ok z j _ hz8 (by omega) (by omega) (by omega)).mono ?_
        rintro e w2 ⟨rfl, rfl⟩
        go_wp2_with fail
        go_ret2
        refine ⟨hgr1.out, .inl ⟨hC0.out, ?_, by rw [hA.out]; exact hcu1.out⟩⟩
        rw [hV.out, ← hstep.out]
        rfl
    · obtain rfl : j = m := by
        rcases Nat.lt_or_ge j m with h | h
        · exact absurd (HCn.out.2.1 j h).1 hpj
        · omega
      have hC2 : Hid (guC f n p j = 1) := by show _ = _; unfold guC; rw [if_pos (by omega)]
      go_wp2_with fail
      refine (next_end cb _ n c ((p + j : Nat) : Int) aE _ hn hcu.out (.inr (by omega)) hEr.out.gE).mono ?_
      rintro e w1 ⟨rfl, b1⟩
      have hgr1 := hid (grown_below hgr.out b1)
      have hcu1 := hid (hcu.out.below b1 hcu.out.lt)
      clear b1
      go_wp2_with fail
      go_ret2
      refine ⟨grown_below hgr1.out ((Below.refl _ _).alloc (Nat.le_refl _) _), .inr ⟨by rw [hC2.out]; omega, _, rfl, hgr1.out.size, ⟨by simp, by rw [hC2.out]; simp [adr], by simp⟩, _, hcu1.out.below ((Below.refl _ _).alloc (Nat.le_refl _) _) hcu1.out.lt⟩⟩
variable {EX : Nat → Option Value}
theorem guC_or (f : Nat → Int) (n p m : Nat) : guC f n p m = 0 ∨ (guC f n p m = 1 ∨ guC f n p m = 2 ∨ guC f n p m = 3) := by
  unfold guC
  repeat' split
  all_goals simp
def gX (f : Nat → Int) (n m : Nat) (x : Int) : Nat × Int × Nat := if 0 ≤ x ∧ x < n then (guV f n x.toNat m, (guA f n x.toNat m : Int), guC f n x.toNat m) else (0, x, 1)
end Go.Proofs.YtakmpmhjcngbbaaGreatDoor
