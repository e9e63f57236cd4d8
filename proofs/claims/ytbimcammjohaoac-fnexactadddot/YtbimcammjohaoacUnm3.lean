import Derived.Test.YtbimcammjohaoacUnm2
namespace Go.Proofs.Ytbimcammjohaoac
open Go.ChangeShapes Go.WideShapes Go.ChangeAt Go.RowKit Go.Maps Go.Sort
set_option linter.unusedVariables false
set_option linter.unusedSimpArgs false

def SK (f : Int → Nat) : Nat → Nat
  | 0 => 0
  | k + 1 => SK f k + f (k : Int)
theorem SK_zero {f : Int → Nat} (h : ∀ r, f r = 0) : ∀ k, SK f k = 0
  | 0 => rfl
  | k + 1 => by simp only [SK]; rw [SK_zero h k, h]
theorem SK_same {f f' : Int → Nat} {x : Int} (ho : ∀ r, r ≠ x → f' r = f r) : ∀ k : Nat, ((k : Int) ≤ x ∨ x < 0) → SK f' k = SK f k
  | 0, _ => rfl
  | k + 1, h => by simp only [SK]; rw [SK_same ho k (by omega), ho k (by omega)]
theorem SK_upd {f f' : Int → Nat} {x : Int} (ho : ∀ r, r ≠ x → f' r = f r) (h0 : 0 ≤ x) : ∀ k : Nat, x < k → SK f' k + f x = SK f k + f' x
  | 0, h => by omega
  | k + 1, h => by
    simp only [SK]
    by_cases e : x = (k : Int)
    · rw [SK_same ho k (by omega), ← e]; omega
    · have := SK_upd ho h0 k (by omega)
      rw [ho k (fun h => e h.symm)]; omega
theorem SK_le {f f' : Int → Nat} (h : ∀ r, f r ≤ f' r) : ∀ k, SK f k ≤ SK f' k
  | 0 => Nat.le_refl _
  | k + 1 => Nat.add_le_add (SK_le h k) (h _)
theorem SK_const {f : Int → Nat} {c : Nat} (h : ∀ r, f r ≤ c) : ∀ k, SK f k ≤ c * k
  | 0 => Nat.le_refl _
  | k + 1 => by have := SK_const h k; have := h (k : Int); simp only [SK]; rw [Nat.mul_succ]; omega
theorem outF_len (L : Int → List (Int × Int)) : ∀ k, (outF L k).length = SK (fun r => (L r).length) k
  | 0 => rfl
  | k + 1 => by
    by_cases e : (L (k : Int)).isEmpty = true
    · rw [outF_succ_n e, outF_len L k]
      have : L (k : Int) = [] := by simpa using e
      simp [SK, this]
    · rw [outF_succ_y (by simpa using e), List.length_append, outF_len L k]
      simp [SK, tag]

set_option maxRecDepth 100000 in
set_option maxHeartbeats 1000000 in
theorem countM {w : World} {bm n : Nat} {D : DataW Value} {G : Int → Value} {L : Int → List (Int × Int)} (h : GrpR w bm n D G L) (hL : ∀ r, L r ≠ [] → 0 ≤ r ∧ r < 8) (hl : ∀ r, (L r).length ≤ 2000) :
    Calls Try.prog 42 #[.map (some bm)] w fun e w' => e = .returned (.int .i64 (((outF L 8).length : Nat) : Int)) ∧ Below w.heap.size w w' := by
  have hbm := h.own.lt
  have hown := h.own
  have HG := hid h
  have HL := hid hL
  have HLL := hid hl
  have HLN := hid (outF_len L 8)
  clear h hL hl
  obtain ⟨tot, htot⟩ : ∃ t, (outF L 8).length = t := ⟨_, rfl⟩
  rw [htot] at HLN ⊢
  clear htot
  go_enter Try.func42, Try.ntmps42
  go_wp2_with (at_range; refine wpList_range_own _ rfl _ 69 rfl 3 88 (int_keyed Try.underlying3) Try.underlying69 rawR bm n D rfl hown ?_; intro w0 hrg0 hg0 hs0)
  go_frame
  have b0 : Below w.heap.size w w0 := (Below.refl _ _).grown hg0 (Nat.le_refl _) (fun _ h => by cases h)
  go_loopw [3] (fun v wr => ∃ (left : Lit → Bool) (cnt acc : Nat), v = .int .i64 (acc : Int) ∧ wr.ranges Try.prog 3 rawR bm w.heap.size n D left cnt ∧ Hid (acc = SK (fun r => if left (kI r) then 0 else (L r).length) 8) ∧ Hid (Below w.heap.size w wr))
    (fun _ wr => wr.rangeLeft bm w.heap.size)
  case atStart =>
    refine ⟨_, _, 0, rfl, hrg0, hid ?_, hid b0⟩
    rw [SK_zero (fun r => ?_)]
    cases e : Maps.has D (kI r) with
    | true => rfl
    | false =>
      rw [HG.out.has' r] at e
      have : L r = [] := by simpa using e
      simp [this]
  case round =>
    clear hrg0 hg0 hs0 b0 hown
    obtain ⟨left, cnt, acc, rfl, hrg, hacc, hbel⟩ := hrel
    have hal : acc ≤ 16000 := by
      rw [hacc.out]
      have := SK_const (f := fun r => if left (kI r) then 0 else (L r).length) (c := 2000) (fun r => by have := HLL.out r; show (if _ then _ else _) ≤ _; split <;> omega) 8
      omega
    go_wp2_with (at_next; refine wpList_next_raw _ rfl _ rfl 3 (int_keyed Try.underlying3) Try.underlying3 bm w.heap.size n _ _ _ rfl hrg ?_ ?_)
    · intro hl0
      have HE : Hid (acc = tot) := by
        have h1 := hacc.out
        rw [show (fun r => if left (kI r) then 0 else (L r).length) = fun r => (L r).length from funext fun r => by rw [hl0 (kI r)]; rfl] at h1
        exact hid (h1.trans HLN.out.symm)
      clear hl0 hrg
      go_wp2_with fail
      go_ret
      exact ⟨ret_int (by rw [HE.out]), hbel.out⟩
    · intro x va vn vc w1 cnt1 hwx hlx hat hrg1 hlt hg1 hs1 hen
      have hG : G x = .slice va vn vc := by
        have h1 := HG.out.at' x
        rw [hat] at h1
        injection h1 with h1
        exact h1.symm
      obtain ⟨a', c', e', _⟩ := row_slice (HG.out.rows x)
      rw [hG] at e'
      injection e' with ea en ec
      subst ea ec
      have hx : 0 ≤ x ∧ x < 8 := by
        have h1 := has_true_of_atKey hat
        rw [HG.out.has' x] at h1
        exact HL.out x (fun e => by rw [e] at h1; cases h1)
      have hvl : vn ≤ 2000 := by rw [en]; exact HLL.out x
      have HSUM : Hid (acc + vn = SK (fun r => if (left (kI r) && !(kI r).sameKey (kI x)) then 0 else (L r).length) 8) := by
        obtain ⟨F0, hF0⟩ : ∃ F0 : Int → Nat, F0 = fun r => if left (kI r) then 0 else (L r).length := ⟨_, rfl⟩
        obtain ⟨F1, hF1⟩ : ∃ F1 : Int → Nat, F1 = fun r => if (left (kI r) && !(kI r).sameKey (kI x)) then 0 else (L r).length := ⟨_, rfl⟩
        have h1 := SK_upd (f := F0) (f' := F1) (x := x) (fun r hr => by rw [hF0, hF1]; show (if _ then _ else _) = (if _ then _ else _); rw [sameKey_kI]; simp [hr]) hx.1 8 hx.2
        have h2 : F0 x = 0 := by rw [hF0]; show (if _ then _ else _) = _; rw [hlx]; rfl
        have h3 : F1 x = (L x).length := by rw [hF1]; show (if _ then _ else _) = _; rw [sameKey_kI]; simp
        have h4 := hacc.out
        rw [← hF0] at h4
        rw [← hF1]
        exact hid (by omega)
      have B1 : Hid (Below w.heap.size w w1) := hid (hbel.out.grown hg1 hbel.out.size (fun k hk => by injection hk with hk; omega))
      have HLE := hid hrg.left_eq
      have HR1 := hid hrg1
      have HLT := hid hlt
      clear hrg hg1 hs1 hat hG en hlx hrg1 hlt
      go_wp2_with fail
      go_roundw
      case rel => exact ⟨_, cnt1, acc + vn, by go_num, HR1.out, HSUM, B1⟩
      case measure => rw [HR1.out.left_eq, HLE.out]; exact HLT.out
end Go.Proofs.Ytbimcammjohaoac
