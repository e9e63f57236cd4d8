import Derived.Test.YthkppnmnjboiaaaDoorWh
import Derived.Test.YthkppnmnjboiaaaDoorWc
import Derived.Test.YthkppnmnjboiaaaDoorOb
import Derived.Test.YthkppnmnjboiaaaDoorByo
namespace Go.Proofs.YthkppnmnjboiaaaDoor
open Go.ChangeShapes Go.WideShapes Go.ChangeAt Go.RowKit
set_option linter.unusedVariables false
set_option linter.unusedSimpArgs false

def payl (f : Nat → Int) (n : Nat) : List Int := (List.range n).map f
def preF (k : Int) (f : Nat → Int) (n : Nat) : List Int := [199, 1, k] ++ uvF 9 n ++ payl f n
def gz (zs : List Int) (i : Nat) : Int := zs.getD i 0
def sum4 (c : Int) : List Int := [c / 16777216, c / 65536 % 256, c / 256 % 256, c % 256]
def frB (k : Int) (f : Nat → Int) (n : Nat) : List Int := preF k f n ++ sum4 (crcEnd (crcI (gz (preF k f n)) (preF k f n).length : Nat))
def okF (k : Int) (n : Nat) : Bool := decide (1 ≤ k) && decide (k ≤ 3) && decide (n ≤ 4000)
def frZ (k : Int) (f : Nat → Int) (n : Nat) : List Int := if okF k n then frB k f n else []

theorem payl_len (f : Nat → Int) (n : Nat) : (payl f n).length = n := by simp [payl]
theorem preF_len (k : Int) (f : Nat → Int) (n : Nat) : (preF k f n).length ≤ n + 13 ∧ 3 < (preF k f n).length := by
  have := uvF_len 9 n
  simp only [preF, List.length_append, payl_len, List.length_cons, List.length_nil]
  omega
theorem frZ_len (k : Int) (f : Nat → Int) (n : Nat) : (frZ k f n).length ≤ 4017 := by
  unfold frZ
  split
  · rename_i h
    have hn : n ≤ 4000 := by simp [okF] at h; omega
    have := preF_len k f n
    simp only [frB, List.length_append, sum4, List.length_cons, List.length_nil]
    omega
  · simp
theorem gz_byte {zs : List Int} (h : ∀ z ∈ zs, 0 ≤ z ∧ z < 256) : Byt (gz zs) := by
  intro i
  show 0 ≤ zs.getD i 0 ∧ zs.getD i 0 < 256
  by_cases hi : i < zs.length
  · have e : zs.getD i 0 = zs[i] := by simp [List.getD, hi]
    rw [e]; exact h _ (List.getElem_mem hi)
  · have e : zs.getD i 0 = 0 := by simp [List.getD, List.getElem?_eq_none (Nat.le_of_not_lt hi)]
    rw [e]; omega
theorem preF_byte {k : Int} {f : Nat → Int} {n : Nat} (hf : Byt f) (h1 : 1 ≤ k) (h3 : k ≤ 3) (hn : n ≤ 4194304) : ∀ z ∈ preF k f n, 0 ≤ z ∧ z < 256 := by
  intro z hz
  rcases List.mem_append.1 hz with h | h
  · rcases List.mem_append.1 h with h | h
    · simp at h; omega
    · exact uvF_byte 9 n (by omega) z h
  · obtain ⟨i, _, rfl⟩ := List.mem_map.1 h; exact hf i

theorem bel2 (w : World) (o o' : Obj) : Below w.heap.size w ((w.alloc o).alloc o') := ((Below.refl _ _).alloc (Nat.le_refl _) _).alloc (by simp) _
theorem wrapU64 (x : Int) (h0 : 0 ≤ x) (h1 : x ≤ 1000000000) : IntKind.u64.wrap x = x := by rw [IntKind.wrap_u64]; omega
set_option maxRecDepth 100000 in
theorem l2PutF (m : Nat) (w : World) (hm : m ≤ 1000000000) :
    Calls Tryd.prog 22 #[.int .i64 (m : Int)] w fun e w' => ∃ v, e = .returned v ∧ Own w' w.heap.size v (uvF 9 m) ∧ Below w.heap.size w w' ∧ w.heap.size < w'.heap.size := by
  have x3 : IntKind.u64.wrap (m : Int) = (m : Int) := wrapU64 _ (by omega) (by omega)
  go_enter Tryd.func22, Tryd.ntmps22
  go_wp2_with fail
  refine (specUv 9 m w (Nat.le_refl _) (hid (show m < 128 ^ (9 + 1) by omega)) (by omega)).mono ?_
  rintro e w1 ⟨v, rfl, ho, hb, hz⟩
  go_wp2_with fail
  go_ret
  exact ⟨v, rfl, ho, hb, hz⟩
theorem own_lit3 (w : World) (B : Nat) (x y z : Int) (hB : B ≤ w.heap.size) : Own (w.alloc (.cells #[.int .u8 x, .int .u8 y, .int .u8 z] 5)) B (.slice (some ⟨w.heap.size, 0, none⟩) 3 3) [x, y, z] := by
  have := World.ownsRow_lit (base := B) (e := 5) (size := 1) w #[.int .u8 x, .int .u8 y, .int .u8 z] 3 hB (by unfold maxLen; omega) rfl
  simpa [Own] using this
theorem own_lit0 (w : World) (B : Nat) (hB : B ≤ w.heap.size) : Own (w.alloc (.cells #[] 5)) B (.slice (some ⟨w.heap.size, 0, none⟩) 0 0) [] := by
  have := World.ownsRow_lit (base := B) (e := 5) (size := 1) w #[] 0 hB (by unfold maxLen; omega) rfl
  simpa [Own] using this

theorem seg_news {w : World} {g n : Nat} {f : Nat → Int} (h : Seg w (some ⟨g, 0, none⟩) n f) : ∀ j u, (cells8 f n)[j]? = some u → w.cell? ((⟨g, 0, none⟩ : Addr).add j) = some u := by
  intro j u hj
  have hj' : j < n := by have := (List.getElem?_eq_some_iff.1 hj).1; simpa [cells8] using this
  rw [cells8_get f n j hj'] at hj
  have e : (Addr.add ⟨g, 0, none⟩ j) = ⟨g, 0 + j, none⟩ := by
    by_cases h0 : j = 0
    · subst h0; simp [Addr.add]
    · simp [Addr.add, h0]
  rcases h with h | ⟨b, off, e2, hb, hc⟩
  · omega
  · injection e2 with e2; injection e2 with e3 e4 _
    subst e3 e4
    rw [e, hc j hj', hj]
theorem seg_newsA {w : World} {g n : Nat} {f : Nat → Int} (h : Seg w (some ⟨g, 0, none⟩) n f) : ∀ j u, (cells8 f n)[j]? = some u → w.cell? ⟨g, j, none⟩ = some u := by
  intro j u hj
  have := seg_news h j u hj
  have e : (Addr.add ⟨g, 0, none⟩ j) = ⟨g, 0 + j, none⟩ := by
    by_cases h0 : j = 0
    · subst h0; simp [Addr.add]
    · simp [Addr.add, h0]
  rw [e, Nat.zero_add] at this
  exact this
theorem addr_add : True := trivial
theorem cell4 (w : World) (a b c d : Value) (t : TypeId) : ∀ j u, [a, b, c, d][j]? = some u → (w.alloc (.cells #[a, b, c, d] t)).cell? ((⟨w.heap.size, 0, none⟩ : Addr).add j) = some u := by
  intro j u hj
  match j, hj with
  | 0, hj => simp at hj; subst hj; simp [Addr.add]
  | 1, hj => simp at hj; subst hj; simp [Addr.add]
  | 2, hj => simp at hj; subst hj; simp [Addr.add]
  | 3, hj => simp at hj; subst hj; simp [Addr.add]
theorem cell4A (w : World) (a b c d : Value) (t : TypeId) : ∀ j u, [a, b, c, d][j]? = some u → (w.alloc (.cells #[a, b, c, d] t)).cell? ⟨w.heap.size, j, none⟩ = some u := by
  intro j u hj
  match j, hj with
  | 0, hj => simp at hj; subst hj; simp
  | 1, hj => simp at hj; subst hj; simp
  | 2, hj => simp at hj; subst hj; simp
  | 3, hj => simp at hj; subst hj; simp
theorem crc_u32 {f : Nat → Int} (hf : Byt f) (n : Nat) : 0 ≤ crcEnd (crcI f n : Nat) ∧ crcEnd (crcI f n : Nat) < 4294967296 := by
  have h := crcI_lt f hf n
  unfold crcEnd
  rw [show (4294967295 : Int) = ((4294967295 : Nat) : Int) from rfl, u32_xor_nat _ _ h (by omega)]
  have := Nat.xor_lt_two_pow (n := 32) h (show 4294967295 < 2 ^ 32 by decide)
  omega
theorem own_lit0A (w : World) (o : Obj) : Own ((w.alloc o).alloc (.cells #[] 5)) w.heap.size (.slice (some ⟨(w.alloc o).heap.size, 0, none⟩) 0 0) [] := own_lit0 _ _ (by simp)
theorem undrew {w w1 : World} (h : Below w.drew.heap.size w.drew w1) : Below w.heap.size w w1 := ⟨h.os, h.tape, h.output, h.size, h.block⟩

set_option maxRecDepth 100000 in
set_option maxHeartbeats 1000000 in
theorem specPFc (g n cp : Nat) (k : Int) (f : Nat → Int) (w : World) (hk0 : -9223372036854775808 ≤ k) (hk1 : k ≤ 9223372036854775807) (hn : n ≤ 4194304) (hf : Byt f) (hs : Seg w (some ⟨g, 0, none⟩) n f) :
    Calls Tryd.prog 12 #[.agg #[.int .i64 k, .slice (some ⟨g, 0, none⟩) n cp]] w fun e w' => ∃ v, e = .returned (.tuple #[v, .bool (okF k n)]) ∧ Own w' w.heap.size v (frZ k f n) ∧ Below w.heap.size w w' := by
  obtain ⟨i0, hi, hz0, hz1, hz2⟩ := info_parts Tryd.infoByte
  have fin : ∀ {h : okF k n = false}, Hid (frZ k f n = []) := fun {h} => by unfold frZ; rw [h]; exact hid rfl
  by_cases h1 : k < 1
  · have HN : Hid (okF k n = false) := hid (by simp [okF]; omega)
    have HZ := fin (h := HN.out)
    rw [HN.out]
    clear hs fin
    go_enter Tryd.func12, Tryd.ntmps12
    go_wp2_with fail
    go_ret2
    exact ⟨.slice (some ⟨w.heap.size + 1, 0, none⟩) 0 0, rfl, by rw [HZ.out]; simpa using own_lit0A w (.cells #[.int .i64 k, .slice (some ⟨g, 0, none⟩) n cp] 41), bel2 _ _ _⟩
  · by_cases h3 : 3 < k
    · have HN : Hid (okF k n = false) := hid (by simp [okF]; omega)
      have HZ := fin (h := HN.out)
      rw [HN.out]
      clear hs fin
      go_enter Tryd.func12, Tryd.ntmps12
      go_wp2_with fail
      go_ret2
      exact ⟨.slice (some ⟨w.heap.size + 1, 0, none⟩) 0 0, rfl, by rw [HZ.out]; simpa using own_lit0A w (.cells #[.int .i64 k, .slice (some ⟨g, 0, none⟩) n cp] 41), bel2 _ _ _⟩
    · by_cases h4 : 4000 < n
      · have HN : Hid (okF k n = false) := hid (by simp [okF]; omega)
        have HZ := fin (h := HN.out)
        rw [HN.out]
        have d4 : decide ((4000 : Int) < (n : Int)) = true := by simp; omega
        clear hs fin
        go_enter Tryd.func12, Tryd.ntmps12
        go_wp2_with fail
        go_ret2
        exact ⟨.slice (some ⟨w.heap.size + 1, 0, none⟩) 0 0, rfl, by rw [HZ.out]; simpa using own_lit0A w (.cells #[.int .i64 k, .slice (some ⟨g, 0, none⟩) n cp] 41), bel2 _ _ _⟩
      · have HN : Hid (okF k n = true) := hid (by simp [okF]; omega)
        have HZ : Hid (frZ k f n = frB k f n) := by unfold frZ; rw [HN.out]; exact hid rfl
        rw [HN.out]
        have d4 : decide ((4000 : Int) < (n : Int)) = false := by simp; omega
        have e8 : IntKind.u8.wrap k = k := by rw [IntKind.wrap_u8]; omega
        obtain ⟨W, hW⟩ : ∃ W, w.alloc (.cells #[.int .i64 k, .slice (some ⟨g, 0, none⟩) n cp] 41) = W := ⟨_, rfl⟩
        have bW : Below w.heap.size w W := by rw [← hW]; exact (Below.refl _ _).alloc (Nat.le_refl _) _
        have HZW : Hid (W.heap.size = w.heap.size + 1) := by rw [← hW]; exact hid (by simp)
        have x0 : W.cell? ⟨w.heap.size, 0, none⟩ = some (.int .i64 k) := by rw [← hW]; simp
        have x1 : W.cell? ⟨w.heap.size, 1, none⟩ = some (.slice (some ⟨g, 0, none⟩) n cp) := by rw [← hW]; simp
        have HS := hid (hs.below bW)
        have HBW := hid bW
        have HF := hid hf
        clear hs bW fin hf
        go_enter Tryd.func12, Tryd.ntmps12
        go_wp2_with fail
        try rw [hW]
        clear hW
        refine wp_region_held_drew (S := fun w' => w'.cell? ⟨w.heap.size, 0, none⟩ = some (.int .i64 k) ∧ w'.cell? ⟨w.heap.size, 1, none⟩ = some (.slice (some ⟨g, 0, none⟩) n cp)) (by kernel_rfl) ⟨x0, x1⟩ (fun hHeld => ?_)
        refine take1 (i := 0) (d := some 21) (v := ?_) (by kernel_rfl) (by kernel_rfl) (by kernel_rfl) (by kernel_rfl) (fun _ _ _ h => h) ?_ hHeld ?_
        rotate_left
        · (intro o ho; simp only [List.getElem?_toArray, List.getElem?_cons_succ, List.getElem?_cons_zero, Option.some.injEq] at ho; subst ho; refine Or.inl ⟨by rfl, ?_⟩; intro w hSw; (try dsimp only at hSw); go_simp; try with_reducible rfl)
        try simp only [Act.put, List.setIfInBounds_toArray, List.set_cons_zero, List.set_cons_succ]
        refine take1 (i := 1) (d := some 22) (v := ?_) (by kernel_rfl) (by kernel_rfl) (by kernel_rfl) (by kernel_rfl) (fun _ _ _ h => h) ?_ hHeld ?_
        rotate_left
        · (intro o ho; simp only [List.getElem?_toArray, List.getElem?_cons_succ, List.getElem?_cons_zero, Option.some.injEq] at ho; subst ho; refine Or.inl ⟨by rfl, ?_⟩; intro w hSw; (try dsimp only at hSw); go_simp; try with_reducible rfl)
        try simp only [Act.put, List.setIfInBounds_toArray, List.set_cons_zero, List.set_cons_succ]
        refine take1 (i := 2) (d := some 23) (v := ?_) (by kernel_rfl) (by kernel_rfl) (by kernel_rfl) (by kernel_rfl) (fun _ _ _ h => h) ?_ hHeld ?_
        rotate_left
        · (intro o ho; simp only [List.getElem?_toArray, List.getElem?_cons_succ, List.getElem?_cons_zero, Option.some.injEq] at ho; subst ho; refine Or.inl ⟨by rfl, ?_⟩; intro w hSw; (try dsimp only at hSw); go_simp; try with_reducible rfl)
        try simp only [Act.put, List.setIfInBounds_toArray, List.set_cons_zero, List.set_cons_succ]
        refine take1 (i := 4) (d := some 25) (v := ?_) (by kernel_rfl) (by kernel_rfl) (by kernel_rfl) (by kernel_rfl) (fun _ _ _ h => h) ?_ hHeld ?_
        rotate_left
        · (intro o ho; simp only [List.getElem?_toArray, List.getElem?_cons_succ, List.getElem?_cons_zero, Option.some.injEq] at ho; subst ho; refine Or.inl ⟨by rfl, ?_⟩; intro w hSw; (try dsimp only at hSw); go_simp; try with_reducible rfl)
        try simp only [Act.put, List.setIfInBounds_toArray, List.set_cons_zero, List.set_cons_succ]
        refine take1 (i := 5) (d := some 26) (v := ?_) (by kernel_rfl) (by kernel_rfl) (by kernel_rfl) (by kernel_rfl) (fun _ _ _ h => h) ?_ hHeld ?_
        rotate_left
        · (intro o ho; simp only [List.getElem?_toArray, List.getElem?_cons_succ, List.getElem?_cons_zero, Option.some.injEq] at ho; subst ho; refine Or.inl ⟨by rfl, ?_⟩; intro w hSw; (try dsimp only at hSw); go_simp; try with_reducible rfl)
        try simp only [Act.put, List.setIfInBounds_toArray, List.set_cons_zero, List.set_cons_succ]
        refine take1 (i := 6) (d := some 27) (v := ?_) (by kernel_rfl) (by kernel_rfl) (by kernel_rfl) (by kernel_rfl) (fun _ _ _ h => h) ?_ hHeld ?_
        rotate_left
        · (intro o ho; simp only [List.getElem?_toArray, List.getElem?_cons_succ, List.getElem?_cons_zero, Option.some.injEq] at ho; subst ho; refine Or.inl ⟨by rfl, ?_⟩; intro w hSw; (try dsimp only at hSw); go_simp; try with_reducible rfl)
        try simp only [Act.put, List.setIfInBounds_toArray, List.set_cons_zero, List.set_cons_succ]
        refine ready2 (i := 3) (j := 7) (d := some 24) (d' := some 28) (by kernel_rfl) (by kernel_rfl) (by kernel_rfl) ?_ ?_
        · intro o ho hod K hK; simp only [List.getElem?_toArray, List.getElem?_cons_succ, List.getElem?_cons_zero, Option.some.injEq] at ho; subst ho
          obtain ⟨W1, hW1⟩ : ∃ W1, W.alloc (.cells #[.int .u8 199, .int .u8 1, .int .u8 k] 5) = W1 := ⟨_, rfl⟩
          have b1 : Below W.heap.size W W1 := by rw [← hW1]; exact (Below.refl _ _).alloc (Nat.le_refl _) _
          have lit : Own W1 w.heap.size (.slice (some ⟨W.heap.size, 0, none⟩) 3 3) [199, 1, k] := by rw [← hW1]; exact own_lit3 W _ _ _ _ HBW.out.size
          have z1 := b1.size
          have y0 := (b1.cell (p := ⟨w.heap.size, 0, none⟩) (show w.heap.size < W.heap.size by have := HZW.out; omega)).trans x0
          have y1 := (b1.cell (p := ⟨w.heap.size, 1, none⟩) (show w.heap.size < W.heap.size by have := HZW.out; omega)).trans x1
          go_simp
          try rw [hW1]
          refine hK.out _ _ ⟨y0, y1⟩ (fun hHeld => ?_)
          clear hK K
          try simp only [Act.put, List.setIfInBounds_toArray, List.set_cons_zero, List.set_cons_succ]
          refine call1 (i := 7) (d := some 28) (by kernel_rfl) (by kernel_rfl) ?_
          intro o ho hod K hK; simp only [List.getElem?_toArray, List.getElem?_cons_succ, List.getElem?_cons_zero, Option.some.injEq] at ho; subst ho
          go_simp
          refine (l2PutF n _ (by omega)).mono ?_
          rintro e w2 ⟨v2, rfl, o2, b2, z2⟩
          have b2' : Below W1.heap.size W1 w2 := undrew b2
          have q0 := (b2'.cell (p := ⟨w.heap.size, 0, none⟩) (show w.heap.size < W1.heap.size by have := HZW.out; omega)).trans y0
          have q1 := (b2'.cell (p := ⟨w.heap.size, 1, none⟩) (show w.heap.size < W1.heap.size by have := HZW.out; omega)).trans y1
          have lit2 : Own w2 w.heap.size (.slice (some ⟨W.heap.size, 0, none⟩) 3 3) [199, 1, k] := lit.kept b2' (fun k hk => (World.ownsRow.lt lit k hk).2)
          have HB2 := hid (keepS (keepS HBW.out b1) b2')
          have HS2 := hid ((HS.out.below b1).below b2')
          have zz2 := b2'.size
          refine hK.out _ _ ⟨q0, q1⟩ (fun hHeld => ?_)
          clear hK K
          try simp only [Act.put, List.setIfInBounds_toArray, List.set_cons_zero, List.set_cons_succ]
          refine call1 (i := 8) (d := some 29) (by kernel_rfl) (by kernel_rfl) ?_
          intro o ho hod K hK; simp only [List.getElem?_toArray, List.getElem?_cons_succ, List.getElem?_cons_zero, Option.some.injEq] at ho; subst ho
          rw [if_pos (by rfl)]
          refine wp_appB _ _ (by rfl) w.heap.size _ _ _ [199, 1, k] (uvF 9 n) (by rfl) lit2 (by rfl) o2 (o2.some (uvF_len 9 n).2) (by simp [Value.ownBlock]) (by have := (uvF_len 9 n).1; simp; omega) (by have := HB2.out.size; exact this) ?_
          intro v3 w3 o3 gr3 hv3
          have n0 : ∀ q, (Value.slice (some ⟨W.heap.size, 0, none⟩) 3 3).ownBlock = some q → q = W.heap.size := fun q hq => by simp [Value.ownBlock] at hq; exact hq.symm
          have HB3 := hid (HB2.out.grown gr3.g HB2.out.size (fun q hq => by rw [n0 q hq]; have := HZW.out; omega))
          have c0 := gr3.g.cell q0 (fun e => by have := n0 _ e.symm; simp at this; have := HZW.out; omega)
          have c1 := gr3.g.cell q1 (fun e => by have := n0 _ e.symm; simp at this; have := HZW.out; omega)
          have HS3 : Hid (Seg w3 (some ⟨g, 0, none⟩) n f) := by
            rcases HS.out with h | ⟨b, off, e, hb, hc⟩
            · exact hid (.inl h)
            · injection e with e; injection e with e1 e2 _
              subst e1 e2
              rcases HS2.out with h | ⟨b', off', e', hb', hc'⟩
              · exact hid (.inl h)
              · injection e' with e'; injection e' with e1 e2 _
                subst e1 e2
                refine hid (.inr ⟨_, _, rfl, Nat.lt_of_lt_of_le hb' gr3.g.size, fun i hi => gr3.g.cell (hc' i hi) (fun e => by have := n0 _ e.symm; simp at this; have := HZW.out; omega)⟩)
          refine hK.out _ _ ⟨c0, c1⟩ (fun hHeld => ?_)
          clear hK K
          try simp only [Act.put, List.setIfInBounds_toArray, List.set_cons_zero, List.set_cons_succ]
          refine take1 (i := 9) (d := some 4) (v := ?_) (by kernel_rfl) (by kernel_rfl) (by kernel_rfl) (by kernel_rfl) (fun _ _ _ h => h) ?_ hHeld ?_
          rotate_left
          · (intro o ho; simp only [List.getElem?_toArray, List.getElem?_cons_succ, List.getElem?_cons_zero, Option.some.injEq] at ho; subst ho; refine Or.inl ⟨by rfl, ?_⟩; intro w hSw; (try dsimp only at hSw); go_simp; try with_reducible rfl)
          try simp only [Act.put, List.setIfInBounds_toArray, List.set_cons_zero, List.set_cons_succ]
          refine wpAnyH_done (by kernel_rfl) ?_ _
          clear hHeld y0 y1 q0 q1 lit lit2 o2 b1 b2 b2' gr3 n0 x0 x1 HS2 HB2
          have o3' := o3
          unfold Own at o3'
          have l3 := uvF_len 9 n
          go_wp2_with (at_builtin; refine wpList_app_at rfl _ _ 22 rfl w.heap.size 5 i0 (.int .u8 0) 1 1 Tryd.underlying22 hi hz0 hz1 hz2 rfl (by decide) _ _ _ rfl o3' ⟨g, 0, none⟩ n cp (cells8 f n) rfl (by simp [cells8]) ?c1 ?c2 ?c3 ?c4 ?c5 ?_)
          case c1 => first | exact seg_newsA HS3.out | exact seg_news HS3.out
          case c2 => intro u hu; obtain ⟨i, _, rfl⟩ := List.mem_map.1 hu; rfl
          case c3 => unfold maxLen; first | omega | (simp; omega)
          case c4 => first | omega | (simp; omega)
          case c5 => exact HB3.out.size
          intro v4 w4 hown4 hgr4 hloc4
          have o4 : Own w4 w.heap.size v4 (preF k f n) := by
            unfold Own preF
            rw [List.length_append, List.map_append, payl_len]
            have e : (payl f n).map (Value.int .u8) = cells8 f n := by simp [payl, cells8]
            rw [e]
            exact hown4
          have HB4 := hid (HB3.out.grown hgr4 HB3.out.size (fun q hq => (World.ownsRow.lt o3 q hq).1))
          have hpl := preF_len k f n
          have hpb : Byt (gz (preF k f n)) := gz_byte (preF_byte HF.out h1 h3 hn)
          have HFB : Hid (frB k f n = preF k f n ++ sum4 (crcEnd (crcI (gz (preF k f n)) (preF k f n).length : Nat))) := hid rfl
          obtain ⟨zs, hzs⟩ : ∃ zs, preF k f n = zs := ⟨_, rfl⟩
          rw [hzs] at o4 HFB hpb hpl
          obtain ⟨a4, c4, rfl, s4⟩ := o4.any
          have hV := crc_u32 hpb zs.length
          have HCR := hid (specCrc a4 zs.length c4 (gz zs) w4 (by omega) hpb s4)
          rw [crc_eq (gz zs) hpb zs.length] at HCR
          obtain ⟨V, hVe⟩ : ∃ V, crcEnd (crcI (gz zs) zs.length : Nat) = V := ⟨_, rfl⟩
          rw [hVe] at HCR HFB hV
          have HO4 := hid o4
          clear hown4 hgr4 hloc4 o3 o3' o4 HS3 HB3 c0 c1 s4 hVe hzs hpb hv3
          go_wp2_with fail
          refine HCR.out.mono ?_
          rintro e w5 ⟨rfl, rfl⟩
          have p1 : IntKind.u8.wrap (V / 16777216) = V / 16777216 := by rw [IntKind.wrap_u8]; omega
          have p2 : IntKind.u8.wrap (V / 65536 % 256) = V / 65536 % 256 := by rw [IntKind.wrap_u8]; omega
          have p3 : IntKind.u8.wrap (V / 256 % 256) = V / 256 % 256 := by rw [IntKind.wrap_u8]; omega
          have p4 : IntKind.u8.wrap (V % 256) = V % 256 := by rw [IntKind.wrap_u8]; omega
          have HO5 := hid HO4.out
          clear HCR HO4
          have o5' := HO5.out
          unfold Own at o5'
          have z5 := HB4.out.size
          go_wp2_with (at_builtin; refine wpList_app_at rfl _ _ 22 rfl w.heap.size 5 i0 (.int .u8 0) 1 1 Tryd.underlying22 hi hz0 hz1 hz2 rfl (by decide) _ _ _ rfl (World.ownsRow.alloc o5' _) ⟨w5.heap.size, 0, none⟩ 4 4 [.int .u8 (V / 16777216), .int .u8 (V / 65536 % 256), .int .u8 (V / 256 % 256), .int .u8 (V % 256)] rfl rfl ?d1 ?d2 ?d3 ?d4 ?d5 ?_)
          case d1 => first | exact cell4 _ _ _ _ _ _ | exact cell4A _ _ _ _ _ _
          case d2 => intro u hu; simp at hu; rcases hu with rfl | rfl | rfl | rfl <;> rfl
          case d3 => unfold maxLen; first | omega | (simp; omega)
          case d4 => first | omega | (simp; omega)
          case d5 => simp; omega
          intro v6 w6 hown6 hgr6 hloc6
          have R : Hid (Own w6 w.heap.size v6 (frZ k f n)) := by
            rw [HZ.out, HFB.out]
            unfold Own
            rw [List.length_append, List.map_append]
            exact hid hown6
          have RB := hid ((HB4.out.alloc z5 (.cells #[.int .u8 (V / 16777216), .int .u8 (V / 65536 % 256), .int .u8 (V / 256 % 256), .int .u8 (V % 256)] 5)).grown hgr6 (by simp; omega) (fun q hq => (World.ownsRow.lt HO5.out q hq).1))
          clear hown6 hgr6 hloc6 o5' HO5
          go_wp2_with fail
          go_ret2
          exact ⟨_, rfl, R.out, RB.out⟩
        · intro o ho hod K hK; simp only [List.getElem?_toArray, List.getElem?_cons_succ, List.getElem?_cons_zero, Option.some.injEq] at ho; subst ho
          go_simp
          refine (l2PutF n _ (by omega)).mono ?_
          rintro e w1 ⟨v2, rfl, o1, b1, z1⟩
          have b1' : Below W.heap.size W w1 := undrew b1
          have y0 := (b1'.cell (p := ⟨w.heap.size, 0, none⟩) (show w.heap.size < W.heap.size by have := HZW.out; omega)).trans x0
          have y1 := (b1'.cell (p := ⟨w.heap.size, 1, none⟩) (show w.heap.size < W.heap.size by have := HZW.out; omega)).trans x1
          refine hK.out _ _ ⟨y0, y1⟩ (fun hHeld => ?_)
          clear hK K
          try simp only [Act.put, List.setIfInBounds_toArray, List.set_cons_zero, List.set_cons_succ]
          obtain ⟨w2, hw2⟩ : ∃ w2, w1.alloc (.cells #[.int .u8 199, .int .u8 1, .int .u8 k] 5) = w2 := ⟨_, rfl⟩
          have zz1 := b1'.size
          have b2' : Below w1.heap.size w1 w2 := by rw [← hw2]; exact (Below.refl _ _).alloc (Nat.le_refl _) _
          have lit2 : Own w2 w.heap.size (.slice (some ⟨w1.heap.size, 0, none⟩) 3 3) [199, 1, k] := by rw [← hw2]; exact own_lit3 w1 _ _ _ _ (by have := HZW.out; omega)
          have q0 := (b2'.cell (p := ⟨w.heap.size, 0, none⟩) (show w.heap.size < w1.heap.size by have := HZW.out; omega)).trans y0
          have q1 := (b2'.cell (p := ⟨w.heap.size, 1, none⟩) (show w.heap.size < w1.heap.size by have := HZW.out; omega)).trans y1
          have o2 : Own w2 W.heap.size v2 (uvF 9 n) := o1.kept b2' (fun k hk => (World.ownsRow.lt o1 k hk).2)
          have HB2 := hid (keepS (keepS HBW.out b1') b2')
          have HS2 := hid ((HS.out.below b1').below b2')
          have zz2 := b2'.size
          refine call1 (i := 3) (d := some 24) (by kernel_rfl) (by kernel_rfl) ?_
          intro o ho hod K hK; simp only [List.getElem?_toArray, List.getElem?_cons_succ, List.getElem?_cons_zero, Option.some.injEq] at ho; subst ho
          go_simp
          try rw [hw2]
          refine hK.out _ _ ⟨q0, q1⟩ (fun hHeld => ?_)
          clear hK K
          try simp only [Act.put, List.setIfInBounds_toArray, List.set_cons_zero, List.set_cons_succ]
          refine call1 (i := 8) (d := some 29) (by kernel_rfl) (by kernel_rfl) ?_
          intro o ho hod K hK; simp only [List.getElem?_toArray, List.getElem?_cons_succ, List.getElem?_cons_zero, Option.some.injEq] at ho; subst ho
          rw [if_pos (by rfl)]
          refine wp_appB _ _ (by rfl) w.heap.size _ _ _ [199, 1, k] (uvF 9 n) (by rfl) lit2 (by rfl) o2 (o2.some (uvF_len 9 n).2) (by simp [Value.ownBlock]) (by have := (uvF_len 9 n).1; simp; omega) (by have := HB2.out.size; exact this) ?_
          intro v3 w3 o3 gr3 hv3
          have n0 : ∀ q, (Value.slice (some ⟨w1.heap.size, 0, none⟩) 3 3).ownBlock = some q → q = w1.heap.size := fun q hq => by simp [Value.ownBlock] at hq; exact hq.symm
          have HB3 := hid (HB2.out.grown gr3.g HB2.out.size (fun q hq => by rw [n0 q hq]; have := HZW.out; omega))
          have c0 := gr3.g.cell q0 (fun e => by have := n0 _ e.symm; simp at this; have := HZW.out; omega)
          have c1 := gr3.g.cell q1 (fun e => by have := n0 _ e.symm; simp at this; have := HZW.out; omega)
          have HS3 : Hid (Seg w3 (some ⟨g, 0, none⟩) n f) := by
            rcases HS.out with h | ⟨b, off, e, hb, hc⟩
            · exact hid (.inl h)
            · injection e with e; injection e with e1 e2 _
              subst e1 e2
              rcases HS2.out with h | ⟨b', off', e', hb', hc'⟩
              · exact hid (.inl h)
              · injection e' with e'; injection e' with e1 e2 _
                subst e1 e2
                refine hid (.inr ⟨_, _, rfl, Nat.lt_of_lt_of_le hb' gr3.g.size, fun i hi => gr3.g.cell (hc' i hi) (fun e => by have := n0 _ e.symm; simp at this; have := HZW.out; omega)⟩)
          refine hK.out _ _ ⟨c0, c1⟩ (fun hHeld => ?_)
          clear hK K
          try simp only [Act.put, List.setIfInBounds_toArray, List.set_cons_zero, List.set_cons_succ]
          refine take1 (i := 9) (d := some 4) (v := ?_) (by kernel_rfl) (by kernel_rfl) (by kernel_rfl) (by kernel_rfl) (fun _ _ _ h => h) ?_ hHeld ?_
          rotate_left
          · (intro o ho; simp only [List.getElem?_toArray, List.getElem?_cons_succ, List.getElem?_cons_zero, Option.some.injEq] at ho; subst ho; refine Or.inl ⟨by rfl, ?_⟩; intro w hSw; (try dsimp only at hSw); go_simp; try with_reducible rfl)
          try simp only [Act.put, List.setIfInBounds_toArray, List.set_cons_zero, List.set_cons_succ]
          refine wpAnyH_done (by kernel_rfl) ?_ _
          clear hHeld y0 y1 q0 q1 lit2 o2 o1 b1 b1' b2' gr3 n0 x0 x1 HS2 HB2 hw2
          have o3' := o3
          unfold Own at o3'
          have l3 := uvF_len 9 n
          go_wp2_with (at_builtin; refine wpList_app_at rfl _ _ 22 rfl w.heap.size 5 i0 (.int .u8 0) 1 1 Tryd.underlying22 hi hz0 hz1 hz2 rfl (by decide) _ _ _ rfl o3' ⟨g, 0, none⟩ n cp (cells8 f n) rfl (by simp [cells8]) ?c1 ?c2 ?c3 ?c4 ?c5 ?_)
          case c1 => first | exact seg_newsA HS3.out | exact seg_news HS3.out
          case c2 => intro u hu; obtain ⟨i, _, rfl⟩ := List.mem_map.1 hu; rfl
          case c3 => unfold maxLen; first | omega | (simp; omega)
          case c4 => first | omega | (simp; omega)
          case c5 => exact HB3.out.size
          intro v4 w4 hown4 hgr4 hloc4
          have o4 : Own w4 w.heap.size v4 (preF k f n) := by
            unfold Own preF
            rw [List.length_append, List.map_append, payl_len]
            have e : (payl f n).map (Value.int .u8) = cells8 f n := by simp [payl, cells8]
            rw [e]
            exact hown4
          have HB4 := hid (HB3.out.grown hgr4 HB3.out.size (fun q hq => (World.ownsRow.lt o3 q hq).1))
          have hpl := preF_len k f n
          have hpb : Byt (gz (preF k f n)) := gz_byte (preF_byte HF.out h1 h3 hn)
          have HFB : Hid (frB k f n = preF k f n ++ sum4 (crcEnd (crcI (gz (preF k f n)) (preF k f n).length : Nat))) := hid rfl
          obtain ⟨zs, hzs⟩ : ∃ zs, preF k f n = zs := ⟨_, rfl⟩
          rw [hzs] at o4 HFB hpb hpl
          obtain ⟨a4, c4, rfl, s4⟩ := o4.any
          have hV := crc_u32 hpb zs.length
          have HCR := hid (specCrc a4 zs.length c4 (gz zs) w4 (by omega) hpb s4)
          rw [crc_eq (gz zs) hpb zs.length] at HCR
          obtain ⟨V, hVe⟩ : ∃ V, crcEnd (crcI (gz zs) zs.length : Nat) = V := ⟨_, rfl⟩
          rw [hVe] at HCR HFB hV
          have HO4 := hid o4
          clear hown4 hgr4 hloc4 o3 o3' o4 HS3 HB3 c0 c1 s4 hVe hzs hpb hv3
          go_wp2_with fail
          refine HCR.out.mono ?_
          rintro e w5 ⟨rfl, rfl⟩
          have p1 : IntKind.u8.wrap (V / 16777216) = V / 16777216 := by rw [IntKind.wrap_u8]; omega
          have p2 : IntKind.u8.wrap (V / 65536 % 256) = V / 65536 % 256 := by rw [IntKind.wrap_u8]; omega
          have p3 : IntKind.u8.wrap (V / 256 % 256) = V / 256 % 256 := by rw [IntKind.wrap_u8]; omega
          have p4 : IntKind.u8.wrap (V % 256) = V % 256 := by rw [IntKind.wrap_u8]; omega
          have HO5 := hid HO4.out
          clear HCR HO4
          have o5' := HO5.out
          unfold Own at o5'
          have z5 := HB4.out.size
          go_wp2_with (at_builtin; refine wpList_app_at rfl _ _ 22 rfl w.heap.size 5 i0 (.int .u8 0) 1 1 Tryd.underlying22 hi hz0 hz1 hz2 rfl (by decide) _ _ _ rfl (World.ownsRow.alloc o5' _) ⟨w5.heap.size, 0, none⟩ 4 4 [.int .u8 (V / 16777216), .int .u8 (V / 65536 % 256), .int .u8 (V / 256 % 256), .int .u8 (V % 256)] rfl rfl ?d1 ?d2 ?d3 ?d4 ?d5 ?_)
          case d1 => first | exact cell4 _ _ _ _ _ _ | exact cell4A _ _ _ _ _ _
          case d2 => intro u hu; simp at hu; rcases hu with rfl | rfl | rfl | rfl <;> rfl
          case d3 => unfold maxLen; first | omega | (simp; omega)
          case d4 => first | omega | (simp; omega)
          case d5 => simp; omega
          intro v6 w6 hown6 hgr6 hloc6
          have R : Hid (Own w6 w.heap.size v6 (frZ k f n)) := by
            rw [HZ.out, HFB.out]
            unfold Own
            rw [List.length_append, List.map_append]
            exact hid hown6
          have RB := hid ((HB4.out.alloc z5 (.cells #[.int .u8 (V / 16777216), .int .u8 (V / 65536 % 256), .int .u8 (V / 256 % 256), .int .u8 (V % 256)] 5)).grown hgr6 (by simp; omega) (fun q hq => (World.ownsRow.lt HO5.out q hq).1))
          clear hown6 hgr6 hloc6 o5' HO5
          go_wp2_with fail
          go_ret2
          exact ⟨_, rfl, R.out, RB.out⟩

theorem specPF (g n : Nat) (k : Int) (f : Nat → Int) (w : World) (hk0 : -9223372036854775808 ≤ k) (hk1 : k ≤ 9223372036854775807) (hn : n ≤ 4194304) (hf : Byt f) (hs : Seg w (some ⟨g, 0, none⟩) n f) :
    Calls Tryd.prog 12 #[.agg #[.int .i64 k, .slice (some ⟨g, 0, none⟩) n n]] w fun e w' => ∃ v, e = .returned (.tuple #[v, .bool (okF k n)]) ∧ Own w' w.heap.size v (frZ k f n) ∧ Below w.heap.size w w' :=
  specPFc g n n k f w hk0 hk1 hn hf hs
end Go.Proofs.YthkppnmnjboiaaaDoor
