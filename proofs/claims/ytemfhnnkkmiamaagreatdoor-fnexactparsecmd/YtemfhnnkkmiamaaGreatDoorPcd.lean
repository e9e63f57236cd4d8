import Derived.Test.YtemfhnnkkmiamaaGreatDoorPcc
namespace Go.Proofs.YtemfhnnkkmiamaaGreatDoor
open Go.ChangeShapes Go.WideShapes Go.ChangeAt Go.RowKit
set_option linter.unusedVariables false
set_option linter.unusedSimpArgs false

def hasT (ts : List ByteArray) (s : ByteArray) : Bool := ts.any fun x => x.toList == s.toList
theorem hasT_t {ts : List ByteArray} {s : ByteArray} {k : Nat} (hk : k < ts.length) (h : ((gS ts k).toList == s.toList) = true) : hasT ts s = true := by
  unfold hasT
  rw [List.any_eq_true]
  exact ⟨gS ts k, by simp [gS, List.getD, hk], h⟩
theorem hasT_f {ts : List ByteArray} {s : ByteArray} (h : ∀ j, j < ts.length → ((gS ts j).toList == s.toList) = false) : hasT ts s = false := by
  unfold hasT
  rw [List.any_eq_false]
  intro x hx
  obtain ⟨j, hj, e⟩ := List.getElem_of_mem hx
  have := h j hj
  have e2 : gS ts j = x := by simp [gS, List.getD, hj, e]
  rw [e2] at this
  rw [this]; simp

set_option maxRecDepth 100000 in
set_option maxHeartbeats 1000000 in
theorem l7HasC (a : Option Addr) (c : Nat) (ts : List ByteArray) (s : ByteArray) (w : World) (hn : ts.length ≤ 4194304) (h : SSeg w a ts) :
    Calls Tryz.prog 12 #[.slice a ts.length c, .string s] w fun e w' => e = .returned (.bool (hasT ts s)) ∧ w' = w := by
  have HH : Hid (∀ k, k < ts.length → ((gS ts k).toList == s.toList) = true → hasT ts s = true) := hid (fun k hk h => hasT_t hk h)
  have HF : Hid ((∀ j, j < ts.length → ((gS ts j).toList == s.toList) = false) → hasT ts s = false) := hid hasT_f
  obtain ⟨B, hB⟩ : ∃ B, hasT ts s = B := ⟨_, rfl⟩
  rw [hB] at HH HF ⊢
  clear hB
  have HS := hid h
  clear h
  go_enter Tryz.func12, Tryz.ntmps12
  go_wp2_with fail
  go_loop [5] (fun i => ∃ k : Nat, k ≤ ts.length ∧ i = .int .i64 k ∧ Hid (∀ j, j < k → ((gS ts j).toList == s.toList) = false)) (fun i => ts.length - (intOf i).toNat)
  case atStart => exact ⟨0, Nat.zero_le _, rfl, hid (fun j hj => by omega)⟩
  case round =>
    obtain ⟨k, hk, rfl, HN⟩ := hrel
    by_cases hlt : k < ts.length
    · obtain ⟨b, off, rfl, hb, hc⟩ := HS.out.resolve_left (by omega)
      have c0 := hc k hlt
      have i1 : (0 : Int) ≤ (k : Int) := Int.natCast_nonneg _
      have i2 : (k : Int) < (ts.length : Int) := by omega
      obtain ⟨x, hx⟩ : ∃ x, gS ts k = x := ⟨_, rfl⟩
      have HX := hid hx
      rw [hx] at c0
      clear hc hx
      cases he : (x.toList == s.toList) with
      | true =>
        have HE := hid (HH.out k hlt (by rw [HX.out]; exact he))
        go_wp2_with fail
        go_ret
        exact ⟨retB HE.out.symm, rfl⟩
      | false =>
        have HN2 : Hid (∀ j, j < k + 1 → ((gS ts j).toList == s.toList) = false) := hid (fun j hj => by
          by_cases e : j = k
          · rw [e, HX.out]; exact he
          · exact HN.out j (by omega))
        go_wp2_with fail
        go_round
        case rel => exact ⟨k + 1, hlt, by go_num, HN2⟩
        case measure => simp [intOf]; omega
    · obtain rfl : k = ts.length := by omega
      have HE := hid (HF.out HN.out)
      go_wp2_with fail
      go_ret
      exact ⟨retB HE.out.symm, rfl⟩
theorem seg_lit (w : World) (ts : List ByteArray) : SSeg (w.alloc (.cells (ts.map Value.string).toArray 9)) (some ⟨w.heap.size, 0, none⟩) ts := by
  refine .inr ⟨w.heap.size, 0, rfl, by simp, fun i hi => ?_⟩
  simp [gS, List.getD, hi]

def wPut : List UInt8 := [112, 117, 116]
def wPth : List ByteArray := [⟨#[111, 110]⟩, ⟨#[111, 102, 102]⟩, ⟨#[114, 101, 109, 111, 118, 101]⟩, ⟨#[114, 101, 97, 100]⟩, ⟨#[102, 108, 97, 103]⟩, ⟨#[107, 101, 121, 115]⟩]
def wSum : List UInt8 := [115, 117, 109]
def wPip : List ByteArray := [⟨#[104, 101, 108, 108, 111]⟩, ⟨#[119, 104, 111, 108, 101]⟩, ⟨#[102, 108, 117, 115, 104]⟩, ⟨#[100, 114, 111, 112]⟩, ⟨#[100, 117, 112]⟩, ⟨#[116, 117, 114, 110]⟩, ⟨#[114, 101, 115, 101, 116]⟩]
def wDel : List UInt8 := [100, 101, 108, 105, 118, 101, 114]
def wFlp : List UInt8 := [102, 108, 105, 112]
def fmF (x : ByteArray) : Int × Int × Int × Int :=
  if x.toList == wPut then (1, 0, 1, 1) else if hasT wPth x then (1, 0, 1, 0) else if x.toList == wSum then (1, 0, 0, 0) else if hasT wPip x then (2, 0, 0, 0) else if x.toList == wDel then (2, 1, 0, 0) else if x.toList == wFlp then (2, 2, 0, 0) else (-1, 0, 0, 0)
theorem retQ {a b c d : Int} {q : Int × Int × Int × Int} (h : q = (a, b, c, d)) : Ending.returned (Value.tuple #[.int .i64 a, .int .i64 b, .int .i64 c, .int .i64 d]) = Ending.returned (Value.tuple #[.int .i64 q.1, .int .i64 q.2.1, .int .i64 q.2.2.1, .int .i64 q.2.2.2]) := by rw [h]
set_option maxRecDepth 100000 in
set_option maxHeartbeats 2000000 in
theorem l7FormC (x : ByteArray) (w : World) :
    Calls Tryz.prog 10 #[.string x] w fun e w' => e = .returned (.tuple #[.int .i64 (fmF x).1, .int .i64 (fmF x).2.1, .int .i64 (fmF x).2.2.1, .int .i64 (fmF x).2.2.2]) ∧ Below w.heap.size w w' := by
  obtain ⟨q, hq⟩ : ∃ q, fmF x = q := ⟨_, rfl⟩
  rw [hq]
  have HQ := hid hq
  clear hq
  obtain ⟨w1, hw1⟩ : ∃ w1, w.alloc (.cells #[.string ⟨#[111, 110]⟩, .string ⟨#[111, 102, 102]⟩, .string ⟨#[114, 101, 109, 111, 118, 101]⟩, .string ⟨#[114, 101, 97, 100]⟩, .string ⟨#[102, 108, 97, 103]⟩, .string ⟨#[107, 101, 121, 115]⟩] 9) = w1 := ⟨_, rfl⟩
  have HS1 : Hid (SSeg w1 (some ⟨w.heap.size, 0, none⟩) wPth) := hid (by rw [← hw1]; exact seg_lit w wPth)
  have HB1 : Hid (Below w.heap.size w w1) := hid (by rw [← hw1]; exact (Below.refl _ _).alloc (Nat.le_refl _) _)
  obtain ⟨w2, hw2⟩ : ∃ w2, w1.alloc (.cells #[.string ⟨#[104, 101, 108, 108, 111]⟩, .string ⟨#[119, 104, 111, 108, 101]⟩, .string ⟨#[102, 108, 117, 115, 104]⟩, .string ⟨#[100, 114, 111, 112]⟩, .string ⟨#[100, 117, 112]⟩, .string ⟨#[116, 117, 114, 110]⟩, .string ⟨#[114, 101, 115, 101, 116]⟩] 9) = w2 := ⟨_, rfl⟩
  have HS2 : Hid (SSeg w2 (some ⟨w1.heap.size, 0, none⟩) wPip) := hid (by rw [← hw2]; exact seg_lit w1 wPip)
  have HB2 : Hid (Below w.heap.size w w2) := hid (keepS HB1.out (by rw [← hw2]; exact (Below.refl _ _).alloc (Nat.le_refl _) _))
  have HC1 : Hid (Calls Tryz.prog 12 #[.slice (some ⟨w.heap.size, 0, none⟩) 6 6, .string x] w1 fun e w' => e = .returned (.bool (hasT wPth x)) ∧ w' = w1) := hid (l7HasC _ 6 wPth x w1 (by decide) HS1.out)
  have HC2 : Hid (Calls Tryz.prog 12 #[.slice (some ⟨w1.heap.size, 0, none⟩) 7 7, .string x] w2 fun e w' => e = .returned (.bool (hasT wPip x)) ∧ w' = w2) := hid (l7HasC _ 7 wPip x w2 (by decide) HS2.out)
  cases h1 : (x.toList == ([112, 117, 116] : List UInt8)) with
  | true =>
    have HE : Hid (q = (1, 0, 1, 1)) := hid (by rw [← HQ.out]; unfold fmF wPut; rw [h1]; rfl)
    go_enter Tryz.func10, Tryz.ntmps10
    go_wp2_with fail
    refine bodyPost_ret (v := .tuple #[.int .i64 1, .int .i64 0, .int .i64 1, .int .i64 1]) (by simp [results, Tryz.results10, go_sem]) rfl ⟨retQ HE.out, Below.refl _ _⟩
  | false =>
    go_enter Tryz.func10, Tryz.ntmps10
    go_wp2_with fail
    try rw [hw1]
    refine HC1.out.mono ?_
    rintro e w' ⟨rfl, rfl⟩
    cases h2 : hasT wPth x with
    | true =>
      have HE : Hid (q = (1, 0, 1, 0)) := hid (by rw [← HQ.out]; unfold fmF wPut; rw [h1, h2]; rfl)
      go_wp2_with fail
      refine bodyPost_ret (v := .tuple #[.int .i64 1, .int .i64 0, .int .i64 1, .int .i64 0]) (by simp [results, Tryz.results10, go_sem]) rfl ⟨retQ HE.out, HB1.out⟩
    | false =>
      cases h3 : (x.toList == ([115, 117, 109] : List UInt8)) with
      | true =>
        have HE : Hid (q = (1, 0, 0, 0)) := hid (by rw [← HQ.out]; unfold fmF wPut wSum; rw [h1, h2, h3]; rfl)
        go_wp2_with fail
        refine bodyPost_ret (v := .tuple #[.int .i64 1, .int .i64 0, .int .i64 0, .int .i64 0]) (by simp [results, Tryz.results10, go_sem]) rfl ⟨retQ HE.out, HB1.out⟩
      | false =>
        go_wp2_with fail
        try rw [hw2]
        refine HC2.out.mono ?_
        rintro e w' ⟨rfl, rfl⟩
        cases h4 : hasT wPip x with
        | true =>
          have HE : Hid (q = (2, 0, 0, 0)) := hid (by rw [← HQ.out]; unfold fmF wPut wSum; rw [h1, h2, h3, h4]; rfl)
          go_wp2_with fail
          refine bodyPost_ret (v := .tuple #[.int .i64 2, .int .i64 0, .int .i64 0, .int .i64 0]) (by simp [results, Tryz.results10, go_sem]) rfl ⟨retQ HE.out, HB2.out⟩
        | false =>
          cases h5 : (x.toList == ([100, 101, 108, 105, 118, 101, 114] : List UInt8)) with
          | true =>
            have HE : Hid (q = (2, 1, 0, 0)) := hid (by rw [← HQ.out]; unfold fmF wPut wSum wDel; rw [h1, h2, h3, h4, h5]; rfl)
            go_wp2_with fail
            refine bodyPost_ret (v := .tuple #[.int .i64 2, .int .i64 1, .int .i64 0, .int .i64 0]) (by simp [results, Tryz.results10, go_sem]) rfl ⟨retQ HE.out, HB2.out⟩
          | false =>
            cases h6 : (x.toList == ([102, 108, 105, 112] : List UInt8)) with
            | true =>
              have HE : Hid (q = (2, 2, 0, 0)) := hid (by rw [← HQ.out]; unfold fmF wPut wSum wDel wFlp; rw [h1, h2, h3, h4, h5, h6]; rfl)
              go_wp2_with fail
              refine bodyPost_ret (v := .tuple #[.int .i64 2, .int .i64 2, .int .i64 0, .int .i64 0]) (by simp [results, Tryz.results10, go_sem]) rfl ⟨retQ HE.out, HB2.out⟩
            | false =>
              have HE : Hid (q = (-1, 0, 0, 0)) := hid (by rw [← HQ.out]; unfold fmF wPut wSum wDel wFlp; rw [h1, h2, h3, h4, h5, h6]; rfl)
              go_wp2_with fail
              refine bodyPost_ret (v := .tuple #[.int .i64 (-1), .int .i64 0, .int .i64 0, .int .i64 0]) (by simp [results, Tryz.results10, go_sem]) rfl ⟨retQ HE.out, HB2.out⟩
end Go.Proofs.YtemfhnnkkmiamaaGreatDoor
