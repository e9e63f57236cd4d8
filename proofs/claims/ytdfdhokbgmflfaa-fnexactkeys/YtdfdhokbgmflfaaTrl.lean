import Derived.Test.YtdfdhokbgmflfaaTrk
import Derived.Shelf.SlSortCmp.NoneTotal
import Derived.RangeFuncBound
namespace Go.Proofs.Ytdfdhokbgmflfaa
open Go.ChangeShapes Go.WideShapes Go.ChangeAt Go.RowKit Go.Maps Go.Sort Go.Lib Go.Shelf
set_option linter.unusedVariables false
set_option linter.unusedSimpArgs false

set_option maxRecDepth 100000 in
set_option maxHeartbeats 1000000 in
theorem compareKeysW (x y : Ky) (w : World) : Calls Try.prog 49 #[.agg #[.string x.1, .int .i64 x.2], .agg #[.string y.1, .int .i64 y.2]] w fun e w' => e = .returned (.int .i64 (cmpK x y)) ∧ Bw w w' := by
  obtain ⟨s, k⟩ := x
  obtain ⟨s', k'⟩ := y
  dsimp only
  obtain ⟨W, hW⟩ : ∃ W, (w.alloc (.cells #[.string s, .int .i64 k] 57)).alloc (.cells #[.string s', .int .i64 k'] 57) = W := ⟨_, rfl⟩
  have b0 : Bw w W := by rw [← hW]; exact ⟨below2 _ _ _, Nat.le_refl _⟩
  have X0 : Bx2 W w.heap.size (.string s) (.int .i64 k) := by rw [← hW]; exact (Bx2.made w _ _ _).allocs _
  have X1 : Bx2 W (w.heap.size + 1) (.string s') (.int .i64 k') := by rw [← hW]; simpa using Bx2.made (w.alloc (.cells #[.string s, .int .i64 k] 57)) (.string s') (.int .i64 k') 57
  have HB0 := hid b0
  have HX0 := hid X0
  have HX1 := hid X1
  clear b0 X0 X1
  go_enter Try.func49, Try.ntmps49
  go_wp2_with fail
  try rw [hW]
  clear hW
  have HCS : Hid (∀ w', Bw W w' → (Bw W w' ∧ w'.cell? ⟨w.heap.size, 0, none⟩ = some (.string s) ∧ w'.cell? ⟨w.heap.size, 1, none⟩ = some (.int .i64 k) ∧ w'.cell? ⟨w.heap.size + 1, 0, none⟩ = some (.string s') ∧ w'.cell? ⟨w.heap.size + 1, 1, none⟩ = some (.int .i64 k'))) := hid (fun w' hB => by
    have x0 := HX0.out.below hB.1 HX0.out.lt
    have x1 := HX1.out.below hB.1 HX1.out.lt
    exact ⟨hB, x0.c0, x0.c1, x1.c0, x1.c1⟩)
  refine wp_region_held_drew (S := fun w' => Bw W w' ∧ w'.cell? ⟨w.heap.size, 0, none⟩ = some (.string s) ∧ w'.cell? ⟨w.heap.size, 1, none⟩ = some (.int .i64 k) ∧ w'.cell? ⟨w.heap.size + 1, 0, none⟩ = some (.string s') ∧ w'.cell? ⟨w.heap.size + 1, 1, none⟩ = some (.int .i64 k')) (by kernel_rfl) (HCS.out _ ⟨(RowKit.Below.refl _ _).drew, Nat.le_succ _⟩) (fun hHeld => ?_)
  refine take1 (i := 0) (d := some 5) (v := ?_) (by kernel_rfl) (by kernel_rfl) (by kernel_rfl) (by kernel_rfl) (fun _ _ _ h => h) ?_ hHeld ?_
  rotate_left
  · (intro o ho; simp only [List.getElem?_toArray, List.getElem?_cons_succ, List.getElem?_cons_zero, Option.some.injEq] at ho; subst ho; refine Or.inl ⟨by rfl, ?_⟩; intro w hSw; (try dsimp only at hSw); go_simp; try with_reducible rfl)
  try simp only [Act.put, List.setIfInBounds_toArray, List.set_cons_zero, List.set_cons_succ]
  refine take1 (i := 1) (d := some 6) (v := ?_) (by kernel_rfl) (by kernel_rfl) (by kernel_rfl) (by kernel_rfl) (fun _ _ _ h => h) ?_ hHeld ?_
  rotate_left
  · (intro o ho; simp only [List.getElem?_toArray, List.getElem?_cons_succ, List.getElem?_cons_zero, Option.some.injEq] at ho; subst ho; refine Or.inl ⟨by rfl, ?_⟩; intro w hSw; (try dsimp only at hSw); go_simp; try with_reducible rfl)
  try simp only [Act.put, List.setIfInBounds_toArray, List.set_cons_zero, List.set_cons_succ]
  refine take1 (i := 2) (d := some 7) (v := ?_) (by kernel_rfl) (by kernel_rfl) (by kernel_rfl) (by kernel_rfl) (fun _ _ _ h => h) ?_ hHeld ?_
  rotate_left
  · (intro o ho; simp only [List.getElem?_toArray, List.getElem?_cons_succ, List.getElem?_cons_zero, Option.some.injEq] at ho; subst ho; refine Or.inl ⟨by rfl, ?_⟩; intro w hSw; (try dsimp only at hSw); go_simp; try with_reducible rfl)
  try simp only [Act.put, List.setIfInBounds_toArray, List.set_cons_zero, List.set_cons_succ]
  refine take1 (i := 3) (d := some 8) (v := ?_) (by kernel_rfl) (by kernel_rfl) (by kernel_rfl) (by kernel_rfl) (fun _ _ _ h => h) ?_ hHeld ?_
  rotate_left
  · (intro o ho; simp only [List.getElem?_toArray, List.getElem?_cons_succ, List.getElem?_cons_zero, Option.some.injEq] at ho; subst ho; refine Or.inl ⟨by rfl, ?_⟩; intro w hSw; (try dsimp only at hSw); go_simp; try with_reducible rfl)
  try simp only [Act.put, List.setIfInBounds_toArray, List.set_cons_zero, List.set_cons_succ]
  refine take1 (i := 5) (d := some 10) (v := ?_) (by kernel_rfl) (by kernel_rfl) (by kernel_rfl) (by kernel_rfl) (fun _ _ _ h => h) ?_ hHeld ?_
  rotate_left
  · (intro o ho; simp only [List.getElem?_toArray, List.getElem?_cons_succ, List.getElem?_cons_zero, Option.some.injEq] at ho; subst ho; refine Or.inl ⟨by rfl, ?_⟩; intro w hSw; (try dsimp only at hSw); go_simp; try with_reducible rfl)
  try simp only [Act.put, List.setIfInBounds_toArray, List.set_cons_zero, List.set_cons_succ]
  refine take1 (i := 6) (d := some 11) (v := ?_) (by kernel_rfl) (by kernel_rfl) (by kernel_rfl) (by kernel_rfl) (fun _ _ _ h => h) ?_ hHeld ?_
  rotate_left
  · (intro o ho; simp only [List.getElem?_toArray, List.getElem?_cons_succ, List.getElem?_cons_zero, Option.some.injEq] at ho; subst ho; refine Or.inl ⟨by rfl, ?_⟩; intro w hSw; (try dsimp only at hSw); go_simp; try with_reducible rfl)
  try simp only [Act.put, List.setIfInBounds_toArray, List.set_cons_zero, List.set_cons_succ]
  refine take1 (i := 7) (d := some 12) (v := ?_) (by kernel_rfl) (by kernel_rfl) (by kernel_rfl) (by kernel_rfl) (fun _ _ _ h => h) ?_ hHeld ?_
  rotate_left
  · (intro o ho; simp only [List.getElem?_toArray, List.getElem?_cons_succ, List.getElem?_cons_zero, Option.some.injEq] at ho; subst ho; refine Or.inl ⟨by rfl, ?_⟩; intro w hSw; (try dsimp only at hSw); go_simp; try with_reducible rfl)
  try simp only [Act.put, List.setIfInBounds_toArray, List.set_cons_zero, List.set_cons_succ]
  refine take1 (i := 8) (d := some 13) (v := ?_) (by kernel_rfl) (by kernel_rfl) (by kernel_rfl) (by kernel_rfl) (fun _ _ _ h => h) ?_ hHeld ?_
  rotate_left
  · (intro o ho; simp only [List.getElem?_toArray, List.getElem?_cons_succ, List.getElem?_cons_zero, Option.some.injEq] at ho; subst ho; refine Or.inl ⟨by rfl, ?_⟩; intro w hSw; (try dsimp only at hSw); go_simp; try with_reducible rfl)
  try simp only [Act.put, List.setIfInBounds_toArray, List.set_cons_zero, List.set_cons_succ]
  refine call1 (i := 4) (d := some 9) (by kernel_rfl) (by kernel_rfl) ?_
  intro o ho hod K hK; simp only [List.getElem?_toArray, List.getElem?_cons_succ, List.getElem?_cons_zero, Option.some.injEq] at ho; subst ho
  go_simp
  refine (cmpStr s s' _).mono ?_
  rintro e w1 ⟨rfl, rfl⟩
  refine hK.out _ _ hHeld (fun hHeld => ?_)
  clear hK K
  try simp only [Act.put, List.setIfInBounds_toArray, List.set_cons_zero, List.set_cons_succ]
  refine call1 (i := 9) (d := some 14) (by kernel_rfl) (by kernel_rfl) ?_
  intro o ho hod K hK; simp only [List.getElem?_toArray, List.getElem?_cons_succ, List.getElem?_cons_zero, Option.some.injEq] at ho; subst ho
  go_simp
  refine (compare k k' _).mono ?_
  rintro e w2 ⟨rfl, rfl⟩
  refine hK.out _ _ hHeld (fun hHeld => ?_)
  clear hK K
  try simp only [Act.put, List.setIfInBounds_toArray, List.set_cons_zero, List.set_cons_succ]
  refine call1 (i := 10) (d := some 15) (by kernel_rfl) (by kernel_rfl) ?_
  intro o ho hod K hK; simp only [List.getElem?_toArray, List.getElem?_cons_succ, List.getElem?_cons_zero, Option.some.injEq] at ho; subst ho
  go_simp
  have hB : Bw W (W.drew.alloc (.cells #[.int .i64 (cmpS s s'), .int .i64 (cmpI k k')] 3)) := ⟨hHeld.1.1.alloc hHeld.1.1.size _, hHeld.1.2⟩
  refine hK.out _ _ (HCS.out _ hB) (fun hHeld => ?_)
  clear hK K
  try simp only [Act.put, List.setIfInBounds_toArray, List.set_cons_zero, List.set_cons_succ]
  refine call1 (i := 11) (d := some 16) (by kernel_rfl) (by kernel_rfl) ?_
  intro o ho hod K hK; simp only [List.getElem?_toArray, List.getElem?_cons_succ, List.getElem?_cons_zero, Option.some.injEq] at ho; subst ho
  go_simp
  refine (cmpOr _ 2 2 (fun i => if i = 0 then cmpS s s' else cmpI k k') _ (by omega) (fun i hi => ?_)).mono ?_
  · match i, hi with
    | 0, _ => simp
    | 1, _ => simp
  rintro e w3 ⟨rfl, rfl⟩
  refine hK.out _ _ hHeld (fun hHeld => ?_)
  clear hK K
  try simp only [Act.put, List.setIfInBounds_toArray, List.set_cons_zero, List.set_cons_succ]
  refine take1 (i := 12) (d := some 4) (v := ?_) (by kernel_rfl) (by kernel_rfl) (by kernel_rfl) (by kernel_rfl) (fun _ _ _ h => h) ?_ hHeld ?_
  rotate_left
  · (intro o ho; simp only [List.getElem?_toArray, List.getElem?_cons_succ, List.getElem?_cons_zero, Option.some.injEq] at ho; subst ho; refine Or.inl ⟨by rfl, ?_⟩; intro w hSw; (try dsimp only at hSw); go_simp; try with_reducible rfl)
  try simp only [Act.put, List.setIfInBounds_toArray, List.set_cons_zero, List.set_cons_succ]
  refine wpAnyH_done (by kernel_rfl) ?_ _
  have HB : Hid (Bw w (W.drew.alloc (.cells #[.int .i64 (cmpS s s'), .int .i64 (cmpI k k')] 3))) := hid ⟨HB0.out.1.trans (hHeld.1.1.mono HB0.out.1.size), Nat.le_trans HB0.out.2 hHeld.1.2⟩
  clear hHeld hB
  go_wp2_with fail
  go_ret
  exact ⟨ret_i nz2, HB.out⟩
instance : Inhabited Ky := ⟨(ByteArray.empty, 0)⟩
theorem kCells_len (x : Ky) : (kCells x).length = 2 := rfl
theorem kRow_len (ss : List Ky) : (kRow ss).length = ss.length * 2 := by
  induction ss with
  | nil => rfl
  | cons x r ih => simp only [kRow, List.flatMap_cons, List.length_append, List.length_cons] at *; rw [ih, kCells_len]; omega
theorem kRow_get : ∀ (ss : List Ky) (t : Nat), t < ss.length * 2 → (kRow ss)[t]? = some ((kCells ss.toArray[t / 2]!)[t % 2]!)
  | [], t, h => by simp at h
  | x :: r, t, h => by
    rcases Nat.lt_or_ge t 2 with h2 | h2
    · have : t = 0 ∨ t = 1 := by omega
      rcases this with rfl | rfl <;> simp [kRow, kCells]
    · obtain ⟨u, rfl⟩ : ∃ u, t = u + 2 := ⟨t - 2, by omega⟩
      have ih := kRow_get r u (by simp at h; omega)
      have e1 : (u + 2) / 2 = u / 2 + 1 := by omega
      have e2 : (u + 2) % 2 = u % 2 := by omega
      rw [e1, e2]
      have hu : u / 2 < r.length := by simp at h; omega
      have e3 : (x :: r).toArray[u / 2 + 1]! = r.toArray[u / 2]! := by
        rw [getElem!_pos _ _ (by simp; omega), getElem!_pos _ _ (by simpa using hu)]; simp
      rw [e3, ← ih]
      simp [kRow, kCells]
theorem flat_kRow (ss : List Ky) : (flatK kCells 2 ss.toArray).toList = kRow ss := by
  apply List.ext_getElem?
  intro t
  by_cases h : t < ss.length * 2
  · rw [kRow_get ss t h]
    have h' : t < (flatK kCells 2 ss.toArray).size := by simpa using h
    have := get_flatK kCells 2 ss.toArray t (by simpa using h)
    rw [getElem!_pos _ t h'] at this
    rw [Array.getElem?_toList, Array.getElem?_eq_getElem h', this]
  · rw [List.getElem?_eq_none (by simp; omega), List.getElem?_eq_none (by rw [kRow_len]; omega)]
theorem heap_sortedK {w : World} {g n : Nat} {os : Array Obj} {cur : Array Value} {e : TypeId} {fr : Nat × Nat} (d : Array Value) (hb : w.heap[g]? = some (.cells cur e fr)) :
    (grow (putRow id (Sort.ahead w n) g 0 d) os).heap[g]? = some (.cells (putCells id 0 d cur) e fr) := by
  have hg : g < w.heap.size := (Array.getElem?_eq_some_iff.1 hb).1
  rw [heap_grow_old _ _ (by simpa [putRow, mapBlock, Sort.ahead] using hg)]
  simp [putRow, mapBlock, Sort.ahead, Array.getElem?_modify, hb, onCells]
theorem grownBy_sortedK {w : World} {g n : Nat} {os : Array Obj} (d : Array Value) : w.grownBy (grow (putRow id (Sort.ahead w n) g 0 d) os) (some g) := by
  refine ⟨rfl, rfl, rfl, by simp [grow, putRow, mapBlock, Sort.ahead], fun k hk hne => ?_⟩
  rw [heap_grow_old _ _ (by simpa [putRow, mapBlock, Sort.ahead] using hk)]
  have : g ≠ k := fun e => hne (by rw [e])
  simp [putRow, mapBlock, Sort.ahead, Array.getElem?_modify, this]
theorem take_putV (cur : Array Value) (ts : List Value) (h : ts.length ≤ cur.size) : (putCells id 0 ts.toArray cur).toList.take ts.length = ts := by
  apply List.ext_getElem?
  intro j
  by_cases hj : j < ts.length
  · rw [List.getElem?_take_of_lt hj, Array.getElem?_toList]
    simp [putCells, hj, show j < cur.size by omega]
  · rw [List.getElem?_take_eq_none (by omega), List.getElem?_eq_none (by omega)]
theorem eg_cmpK : ∀ args w, (callFunc 49 args).run Try.prog w = .ok (.enter 49 args) w := enters_of Try.func49 (by kernel_rfl) rfl
theorem cmpLaysK (blk off size : Nat) (w : World) : CmpLays Try.prog 49 #[] kCells 2 cmpK blk off size w := fun m os dk _ x y =>
  (compareKeysW x y _).mono fun e w' ⟨he, hb⟩ => ⟨he, hb.grown⟩
set_option maxHeartbeats 1000000 in
theorem sortFuncK (B blk cap : Nat) (ss : List Ky) (w : World) (ho : w.ownsRow B 57 2 (.slice (some ⟨blk, 0, none⟩) ss.length cap) ss.length (kRow ss)) (hsz : ss.length ≤ 1048576) :
    Calls Try.prog 60 #[.slice (some ⟨blk, 0, none⟩) ss.length cap, .func (.func 49) #[] #[]] w fun e w' => e = .returned (.tuple #[]) ∧ ∃ ts : List Ky, ts.Perm ss ∧ SortedIn (ltOf cmpK) 0 ts.length ts.toArray ∧ w'.ownsRow B 57 2 (.slice (some ⟨blk, 0, none⟩) ss.length cap) ss.length (kRow ts) ∧ w.grownBy w' (some blk) := by
  rcases ho.2 with ⟨h0, _⟩ | ⟨g', cap', cur, hv, hbase, hb, h1, h2, h3, h4⟩
  · cases h0
  cases hv
  have hblk : blk < w.heap.size := (Array.getElem?_eq_some_iff.1 hb).1
  have hH : HoldsK kCells 2 w blk 0 ss.toArray := by
    intro t ht
    have ht' : t < ss.length * 2 := by simpa using ht
    refine ⟨?_, by simp [World.frozen?, hb]⟩
    have e1 : (cur.toList.take (ss.length * 2))[t]? = (kRow ss)[t]? := by rw [h4]
    rw [List.getElem?_take_of_lt ht', kRow_get ss t ht'] at e1
    have e2 := get_flatK kCells 2 ss.toArray t (by simpa using ht')
    rw [e2]
    simp only [World.cell?, hb, Nat.zero_add, Option.isSome_none, Bool.false_eq_true, if_false]
    rw [← Array.getElem?_toList, e1]; rfl
  have hcon := AnyQ.slices_SortFunc Try.sortK 2 Try.isAgg57 Try.sizeOf57 kCells kCells_len (fun x v hv => by simp [kCells] at hv; rcases hv with rfl | rfl <;> rfl) cmpK CmpT.key.swo 49 #[] blk 0 cap ss.toArray w eg_cmpK (cmpLaysK blk 0 _ w) hH hblk (by simp; omega)
  change Calls Try.prog 60 _ _ _ at hcon
  simp only [List.size_toArray] at hcon
  refine hcon.mono ?_
  rintro e w' ⟨rfl, d', n, os, hp, hs, rfl⟩
  have hd : d'.size = ss.length := by simpa using hp.1
  have hperm : d'.toList.Perm ss := by
    have := hp.2.2
    have e1 : d'.extract 0 ss.length = d' := by rw [← hd]; simp
    have e2 : ss.toArray.extract 0 ss.length = ss.toArray := by simp
    rw [e1, e2] at this
    simpa using this
  refine ⟨rfl, d'.toList, hperm, by simpa [hd] using hs, ⟨by rw [kRow_len]; simp [hd], .inr ⟨blk, cap, _, rfl, hbase, heap_sortedK _ hb, h1, h2, by simp [putCells, h3], ?_⟩⟩, grownBy_sortedK _⟩
  have e3 : flatK kCells 2 d' = (kRow d'.toList).toArray := by
    have := flat_kRow d'.toList
    simp only [Array.toArray_toList] at this
    rw [← this]
  rw [e3]
  have := take_putV cur (kRow d'.toList) (by rw [kRow_len]; simp [hd]; omega)
  rw [kRow_len] at this
  simpa [hd] using this
theorem nodup_keys {ts : List Ky} (h : ts.Nodup) (hs : SortedIn (ltOf cmpK) 0 ts.length ts.toArray) : ts.Pairwise (fun x y => cmpK x y < 0) := by
  have := CmpT.key.rises (d := ts.toArray) (by simpa using hs) (by simpa using h)
  simpa using this
set_option maxRecDepth 100000 in
set_option maxHeartbeats 1000000 in
theorem sortedFuncK (g : Nat) (lb : Array Value) (eg : ∀ args w, (callFunc g args).run Try.prog w = .ok (.enter g args) w) (N : Nat) (f : Ky → Option (Nat × Nat)) (w : World) (hN : N ≤ 1048576) (hseq : SeqGives Fence.wide 4 Try.prog g lb keyV (KeysF f) N w) :
    Calls Try.prog 47 #[.func (.func g) #[] lb, .func (.func 49) #[] #[]] w fun e w' => ∃ (v : Value) (ts : List Ky), e = .returned v ∧ ts.Pairwise (fun x y => cmpK x y < 0) ∧ (∀ x, x ∈ ts ↔ f x ≠ none) ∧ ts.length ≤ 1048576 ∧ w'.ownsRow w.heap.size 57 2 v ts.length (kRow ts) ∧ RowKit.Below w.heap.size w w' := by
  have HC := hid (collectK g lb eg _ N (by unfold maxLen; omega) (by omega) w (SeqGives.bounded hseq))
  go_enter Try.func47, Try.ntmps47
  go_wp2_with fail
  refine HC.out.mono ?_
  rintro e w1 ⟨v, ss, rfl, ⟨hK, hlen⟩, hrow, hnil, hb⟩
  rcases hrow.2 with ⟨rfl, hz⟩ | ⟨gb, cap, cur, rfl, hbase, hgb, r1, r2, r3, r4⟩
  · have hss : ss = [] := List.eq_nil_of_length_eq_zero hz
    subst hss
    have HB := hid hb
    have HK := hid hK
    have HR := hid hrow
    have hcon := AnyF.slices_SortFunc_none Try.sortK none 0 (.func (.func 49) #[] #[]) w1
    change Calls Try.prog 60 _ _ _ at hcon
    have HS := hid hcon
    clear hb hK hrow HC hcon
    go_wp2_with fail
    refine HS.out.mono ?_
    rintro e w2 ⟨rfl, rfl⟩
    clear HS
    go_wp2_with fail
    go_ret
    exact ⟨_, [], rfl, List.Pairwise.nil, fun x => HK.out.2 x, by simp, HR.out, HB.out⟩
  · have HS := hid (sortFuncK w.heap.size gb cap ss w1 hrow (by omega))
    have HB := hid hb
    have HK := hid hK
    have HL : Hid (ss.length ≤ 1048576) := hid (by omega)
    have Hg := hid hbase
    clear hb hK hrow HC hnil
    go_wp2_with fail
    refine HS.out.mono ?_
    rintro e w2 ⟨rfl, ts, hp, hs, ho, hg⟩
    have HO := hid ho
    have HB2 := hid (HB.out.grown hg HB.out.size (fun k e => by injection e with e; have := Hg.out; omega))
    have HP := hid hp
    have HSo := hid hs
    clear ho hg hp hs HS
    go_wp2_with fail
    go_ret
    refine ⟨_, ts, rfl, nodup_keys (HP.out.nodup_iff.2 HK.out.1) HSo.out, fun x => by rw [HP.out.mem_iff]; exact HK.out.2 x, by rw [HP.out.length_eq]; exact HL.out, ?_, HB2.out⟩
    rw [HP.out.length_eq]; exact HO.out
set_option maxRecDepth 100000 in
set_option maxHeartbeats 1000000 in
theorem keysNilK (n l Bm : Nat) (J : List Ky → World → Prop) (W : World) (hJ : AbidesFrom W.heap.size J) (hm : W.cell? ⟨Bm, 0, none⟩ = some (.map none)) (h0 : J [] W) :
    CallsIn Fence.wide n Try.prog 61 #[.func (.yield l) #[] #[], .pointer (some ⟨Bm, 0, none⟩)] W fun e W' => (∃ v, e = .returned v) ∧ ∃ ss : List Ky, KeysF (fun _ => (none : Option (Nat × Nat))) ss ∧ J ss W' := by
  have hrg := run_range_nilMap (P := Try.prog) W 60 57 63 Try.underlying60
  have hnx : ∀ ty, (Instr.next (.pointer (some ⟨W.heap.size, 0, none⟩)) false ty).run Try.prog (W.alloc (.mapIter none 0 #[] 0)) = _ := fun ty => run_next_nilMap _ ty 0 0 #[]
  refine callsIn_of_wp Try.func61 rfl trivial ?_ rfl
  simp only [Try.ntmps61, List.size_toArray, List.length_cons, List.length_nil, Nat.reduceAdd, Nat.reduceSub, Array.replicate_succ, Array.replicate_zero, List.push_toArray, List.append_toArray, List.nil_append, List.cons_append]
  gi_wp2
  refine wpIn_loop_rounds 1 ?_
  rw [roundsIn_succ]
  gi_wp2
  go_end0
  exact ⟨⟨_, rfl⟩, [], ⟨List.nodup_nil, fun x => by simp⟩, hJ [] W _ none h0 (World.grownBy_alloc W _ none) (fun r e => by cases e)⟩
set_option maxHeartbeats 1000000 in
theorem keysFnK (mb : Option Nat) (w : World) : Calls Try.prog 48 #[.map mb] w fun e w' => e = .returned (.func (.func 61) #[] #[.pointer (some ⟨w.heap.size, 0, none⟩)]) ∧ w' = w.alloc (.cells #[.map mb] 60) := by
  go_enter Try.func48, Try.ntmps48
  go_wp2_with fail
  go_ret
  exact ⟨rfl, rfl⟩

def kidsF (N : List Ky → Option (Nat × Nat)) (p : List Ky) (y : Ky) : Option (Nat × Nat) := N (p ++ [y])
set_option maxRecDepth 100000 in
set_option maxHeartbeats 1000000 in
theorem sortedKeysC (B c : Nat) (N : List Ky → Option (Nat × Nat)) (M : List Ky → Dt → Option ByteArray) (p : List Ky) (w : World) (hT : Tre w B N M c) (hc : c ≤ 1048576) :
    Calls Try.prog 27 #[.agg #[.map (mF (N p)), .map (mS (N p))]] w fun e w' => ∃ (v : Value) (ts : List Ky), e = .returned v ∧ ts.Pairwise (fun x y => cmpK x y < 0) ∧ (∀ x, x ∈ ts ↔ kidsF N p x ≠ none) ∧ ts.length ≤ 1048576 ∧ w'.ownsRow w.heap.size 57 2 v ts.length (kRow ts) ∧ RowKit.Below w.heap.size w w' := by
  obtain ⟨u0, hu0⟩ : ∃ u, mF (N p) = u := ⟨_, rfl⟩
  obtain ⟨u1, hu1⟩ : ∃ u, mS (N p) = u := ⟨_, rfl⟩
  rw [hu0, hu1]
  have HG : Hid (∀ w1, RowKit.Below w.heap.size w w1 → ∀ Bm, Bm < w1.heap.size → w1.cell? ⟨Bm, 0, none⟩ = some (.map u0) → ∃ n, n ≤ 1048576 ∧ SeqGives Fence.wide 4 Try.prog 61 #[.pointer (some ⟨Bm, 0, none⟩)] keyV (KeysF (kidsF N p)) n w1) := hid (fun w1 b1 Bm hBm hm => by
    cases e : N p with
    | some x =>
      obtain ⟨D, hF⟩ := (hT.below b1).kids p x e
      have : u0 = some x.1 := by rw [← hu0, e]; rfl
      rw [this] at hm
      exact ⟨Maps.size D, Nat.le_trans hF.own.size_le hc, keysGivesK Bm x.1 c _ D w1 hBm hm hF⟩
    | none =>
      have : u0 = none := by rw [← hu0, e]; rfl
      rw [this] at hm
      refine ⟨0, by omega, fun l J W hW hJ hY h0 => ?_⟩
      have e2 : kidsF N p = fun _ => none := funext fun y => hT.up p y e
      rw [e2]
      exact keysNilK 4 l Bm J W hJ ((hW.cell (p := ⟨Bm, 0, none⟩) hBm).trans hm) h0)
  obtain ⟨W, hW⟩ : ∃ W, w.alloc (.cells #[.map u0, .map u1] 63) = W := ⟨_, rfl⟩
  have b0 : RowKit.Below w.heap.size w W := by rw [← hW]; exact (RowKit.Below.refl _ _).alloc (Nat.le_refl _) _
  have X0 : Bx2 W w.heap.size (.map u0) (.map u1) := by rw [← hW]; exact Bx2.made _ _ _ _
  have k0 := X0.c0
  have HB := hid b0
  clear hT b0 X0 hu0 hu1
  go_enter Try.func27, Try.ntmps27
  go_wp2_with fail
  try rw [hW]
  clear hW
  refine (keysFnK u0 W).mono ?_
  rintro e w1 ⟨rfl, hw1⟩
  have b1 : RowKit.Below W.heap.size W w1 := by rw [hw1]; exact (RowKit.Below.refl _ _).alloc (Nat.le_refl _) _
  have c1 : w1.cell? ⟨W.heap.size, 0, none⟩ = some (.map u0) := by rw [hw1]; simp
  have z1 : W.heap.size < w1.heap.size := by rw [hw1]; simp
  have HB1 := hid (HB.out.trans (b1.mono HB.out.size))
  obtain ⟨n, hn, hseq⟩ := HG.out w1 HB1.out W.heap.size z1 c1
  have HS := hid (sortedFuncK _ _ (enters_of Try.func61 (by kernel_rfl) rfl) n (kidsF N p) w1 hn hseq)
  clear hseq hw1 b1 c1 z1 k0 HG
  go_wp2_with fail
  refine HS.out.mono ?_
  rintro e w2 ⟨v, ts, rfl, hp, hm, hl, ho, hb⟩
  have HX := hid (And.intro hp (And.intro hm hl))
  have HB2 := hid (HB1.out.trans (hb.mono HB1.out.size))
  have HO : Hid (w2.ownsRow w.heap.size 57 2 v ts.length (kRow ts)) := hid (by
    obtain ⟨q1, q2⟩ := ho
    refine ⟨q1, ?_⟩
    rcases q2 with q2 | ⟨g, cap, cur, e, hbg, r⟩
    · exact .inl q2
    · exact .inr ⟨g, cap, cur, e, Nat.le_trans HB1.out.size hbg, r⟩)
  clear hp hm hl ho hb HS
  go_wp2_with fail
  go_ret
  exact ⟨v, ts, rfl, HX.out.1, HX.out.2.1, HX.out.2.2, HO.out, HB2.out⟩
end Go.Proofs.Ytdfdhokbgmflfaa
