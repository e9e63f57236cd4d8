import Derived.Test.YtdfdhokbgmflfaaKya
import Derived.Test.YtdfdhokbgmflfaaTrl
import Derived.Test.YtdfdhokbgmflfaaMks
import Derived.Laws.StructEq
namespace Go.Proofs.Ytdfdhokbgmflfaa
open Go.ChangeShapes Go.WideShapes Go.ChangeAt Go.RowKit
set_option linter.unusedVariables false
set_option linter.unusedSimpArgs false

set_option maxRecDepth 100000 in
theorem keyFl : Try.prog.fieldsOf 57 = match Try.prog.underlying 57 with | some (.struct fs) => fs | _ => #[] := rfl
theorem keyStood : Try.prog.stoodInHeld 57 = false := by kernel_rfl
set_option maxRecDepth 100000 in
theorem neqKey (s s' : ByteArray) (k k' : Int) (w : World) : (binOp .neq 57 (.agg #[.string s, .int .i64 k]) (.agg #[.string s', .int .i64 k'])).run Try.prog w = .ok (.bool (!(s.toList == s'.toList && k == k'))) w := by
  rw [run_neq_struct, show (10000 : Nat) = 9999 + 1 from rfl, run_equalIn_agg _ _ _ _ _ (by kernel_rfl) keyStood, keyFl, Try.underlying57]
  cases h1 : (s.toList == s'.toList) <;> simp [Op.eqFields, go_sem, Try.underlying3, Try.underlying9, h1]
  by_cases h2 : k = k' <;> simp [h2]

set_option maxRecDepth 100000 in
set_option maxHeartbeats 1000000 in
theorem underSpec (p q : List ByteArray) (a b : Option Addr) (c d : Nat) (w : World) (hc : p.length ≤ c) (hd : q.length ≤ d) (hc' : c ≤ 9223372036854775807) (hd' : d ≤ 9223372036854775807) (h : SSeg w a p) (h' : SSeg w b q) :
    Calls Try.prog 21 #[.slice a p.length c, .slice b q.length d] w fun e w' => e = .returned (.bool (yes (p <+: q))) ∧ ∃ k, w' = w.drewN k := by
  by_cases hl : p.length ≤ q.length
  · have d0 : decide ((p.length : Int) ≤ (q.length : Int)) = true := by simp; omega
    have d1 : decide (p.length ≤ q.length) = true := by simp; omega
    have htl : (q.take p.length).length = p.length := by simp; omega
    have hs : SSeg w b (q.take p.length) := by
      rcases h' with h' | ⟨b, off, rfl, hb, hc⟩
      · exact .inl (by omega)
      · refine .inr ⟨b, off, rfl, hb, fun i hi => ?_⟩
        have e : gS (q.take p.length) i = gS q i := by simp [gS, List.getD, List.getElem?_take_of_lt (show i < p.length by omega)]
        rw [e]; exact hc i (by omega)
    have HC := hid (cmpSpec p (q.take p.length) a b c d w hc (by omega) hc' hd' h hs)
    rw [htl] at HC
    have HE : Hid (cmpP p (q.take p.length) = 0 ↔ p <+: q) := hid (by rw [cmpP_z]; exact ⟨fun e => by rw [e]; exact List.take_prefix _ _, fun e => List.prefix_iff_eq_take.1 e⟩)
    obtain ⟨C, hC⟩ : ∃ C, cmpP p (q.take p.length) = C := ⟨_, rfl⟩
    rw [hC] at HC HE
    have i0 : (0 : Int) ≤ (p.length : Int) := Int.natCast_nonneg _
    have i1 : (p.length : Int) ≤ (d : Int) := by omega
    clear h h' hs hC htl
    go_enter Try.func21, Try.ntmps21
    go_wp2_with fail
    refine HC.out.mono ?_
    rintro e w1 ⟨rfl, dn, rfl⟩
    clear HC
    by_cases hz : C = 0
    · have d2 : (C == 0) = true := by simpa using hz
      have HG := hid (yes_t (HE.out.1 hz))
      clear hz HE
      go_wp2_with fail
      go_ret
      exact ⟨ret_b HG.out.symm, dn, rfl⟩
    · have d2 : (C == 0) = false := by simpa using hz
      have HG := hid (yes_f (fun h => hz (HE.out.2 h)))
      clear hz HE
      go_wp2_with fail
      go_ret
      exact ⟨ret_b HG.out.symm, dn, rfl⟩
  · have d0 : decide ((p.length : Int) ≤ (q.length : Int)) = false := by simp; omega
    have d1 : decide (p.length ≤ q.length) = false := by simp; omega
    have HG : Hid (yes (p <+: q) = false) := hid (yes_f (fun e => hl e.length_le))
    go_enter Try.func21, Try.ntmps21
    go_wp2_with fail
    go_ret
    exact ⟨ret_b HG.out.symm, 0, rfl⟩
def gK (ts : List Ky) (i : Nat) : Ky := ts.getD i (ByteArray.empty, 0)

def KSeg (w : World) (a : Option Addr) (ts : List Ky) : Prop :=
  ts.length = 0 ∨ ∃ b off, a = some ⟨b, off, none⟩ ∧ b < w.heap.size ∧ ∀ i, i < ts.length → w.cell? ⟨b, off + i * 2, none⟩ = some (.string (gK ts i).1) ∧ w.cell? ⟨b, off + i * 2 + 1, none⟩ = some (.int .i64 (gK ts i).2)
theorem KSeg.below {w w1 : World} {a : Option Addr} {ts : List Ky} (h : KSeg w a ts) (hb : Below w.heap.size w w1) : KSeg w1 a ts := by
  refine h.imp id ?_
  rintro ⟨b, off, e, hlt, hc⟩
  exact ⟨b, off, e, Nat.lt_of_lt_of_le hlt hb.size, fun i hi => ⟨(hb.cell (p := ⟨b, _, none⟩) hlt).trans (hc i hi).1, (hb.cell (p := ⟨b, _, none⟩) hlt).trans (hc i hi).2⟩⟩
theorem kRow_at (ts : List Ky) (i : Nat) (h : i < ts.length) : (kRow ts)[i * 2]? = some (.string (gK ts i).1) ∧ (kRow ts)[i * 2 + 1]? = some (.int .i64 (gK ts i).2) := by
  have e1 := kRow_get ts (i * 2) (by omega)
  have e2 := kRow_get ts (i * 2 + 1) (by omega)
  have d1 : i * 2 / 2 = i := by omega
  have d2 : (i * 2 + 1) / 2 = i := by omega
  have m1 : i * 2 % 2 = 0 := by omega
  have m2 : (i * 2 + 1) % 2 = 1 := by omega
  rw [d1, m1] at e1
  rw [d2, m2] at e2
  have e3 : ts.toArray[i]! = gK ts i := by rw [getElem!_pos _ _ (by simpa using h)]; simp [gK, List.getD, h]
  rw [e3] at e1 e2
  exact ⟨e1, e2⟩
theorem own_kseg {w : World} {B : Nat} {v : Value} {ts : List Ky} (h : w.ownsRow B 57 2 v ts.length (kRow ts)) : ∃ a c, v = .slice a ts.length c ∧ KSeg w a ts ∧ ts.length ≤ c ∧ c ≤ 9223372036854775807 := by
  rcases h.2 with ⟨rfl, h0⟩ | ⟨g, cap, cur, rfl, hbase, hb, h1, h2, h3, h4⟩
  · exact ⟨none, 0, by rw [h0], .inl h0, by omega, by omega⟩
  · refine ⟨_, cap, rfl, .inr ⟨g, 0, rfl, (Array.getElem?_eq_some_iff.1 hb).1, fun i hi => ?_⟩, h1, by unfold maxLen at h2; omega⟩
    have q : ∀ j, j < ts.length * 2 → w.cell? ⟨g, j, none⟩ = (kRow ts)[j]? := fun j hj => by
      rw [← h4, List.getElem?_take_of_lt hj]
      simp [World.cell?, hb]
    rw [Nat.zero_add, q _ (by omega), q _ (by omega)]
    exact kRow_at ts i hi
end Go.Proofs.Ytdfdhokbgmflfaa
