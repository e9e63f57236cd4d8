import Derived.Test.YtbimcammjohaoadGreatDoorMg17
import Derived.Test.YtbimcammjohaoadGreatDoorMg08
import Derived.Maps.RangeWalk
import Derived.Lib.SlMapMerge
namespace Go.Proofs.YtbimcammjohaoadGreatDoor
open Go.ChangeShapes Go.WideShapes Go.ChangeAt Go.RowKit Go.Maps Go.Sort
set_option linter.unusedVariables false
set_option linter.unusedSimpArgs false

def Sfx (w : World) (l : List (Int × Int)) (i k : Nat) (x : Option Addr) : Prop :=
  i + k = l.length ∧ (k = 0 ∨ ∃ g o, x = some ⟨g, o, none⟩ ∧ g < w.heap.size ∧ ∀ j, j < k → w.cell? ⟨g, o + j * 2, none⟩ = some (.int .i64 (sF l (i + j))) ∧ w.cell? ⟨g, o + j * 2 + 1, none⟩ = some (.int .i64 (sT l (i + j))))
theorem Sfx.start {w : World} {l : List (Int × Int)} {a : Option Addr} (h : SS w a l.length (sF l) (sT l)) : Sfx w l 0 l.length a := by
  refine ⟨by omega, ?_⟩
  rcases h with h | ⟨b, off, rfl, hb, hc⟩
  · exact .inl h
  · exact .inr ⟨b, off, rfl, hb, fun j hj => by rw [Nat.zero_add]; exact hc j hj⟩
theorem Sfx.next {w : World} {l : List (Int × Int)} {i k g o : Nat} (h : Sfx w l i (k + 1) (some ⟨g, o, none⟩)) : Sfx w l (i + 1) k (some ⟨g, o + 2, none⟩) := by
  obtain ⟨h1, h2⟩ := h
  refine ⟨by omega, ?_⟩
  rcases h2 with h2 | ⟨g', o', e, hg, hc⟩
  · omega
  · injection e with e; injection e with e1 e2; subst e1 e2
    refine .inr ⟨g, o + 2, rfl, hg, fun j hj => ?_⟩
    have := hc (j + 1) (by omega)
    rw [show o + (j + 1) * 2 = o + 2 + j * 2 from by omega, show i + (j + 1) = i + 1 + j from by omega] at this
    exact this
theorem Sfx.below {w w1 : World} {l : List (Int × Int)} {i k : Nat} {x : Option Addr} (h : Sfx w l i k x) (hb : Below w.heap.size w w1) : Sfx w1 l i k x := by
  obtain ⟨h1, h2⟩ := h
  refine ⟨h1, h2.imp id ?_⟩
  rintro ⟨g, o, e, hg, hc⟩
  exact ⟨g, o, e, Nat.lt_of_lt_of_le hg hb.size, fun j hj => ⟨(hb.cell (p := ⟨g, _, none⟩) hg).trans (hc j hj).1, (hb.cell (p := ⟨g, _, none⟩) hg).trans (hc j hj).2⟩⟩
theorem Sfx.block {w : World} {l : List (Int × Int)} {i k : Nat} {x : Option Addr} (h : Sfx w l i k x) (hk : 0 < k) : ∃ g o, x = some ⟨g, o, none⟩ ∧ g < w.heap.size ∧ w.cell? ⟨g, o, none⟩ = some (.int .i64 (sF l i)) ∧ w.cell? ⟨g, o + 1, none⟩ = some (.int .i64 (sT l i)) := by
  rcases h.2 with h | ⟨g, o, e, hg, hc⟩
  · omega
  · have := hc 0 hk
    simp at this
    exact ⟨g, o, e, hg, this⟩

theorem SR.below {w : World} {B : Nat} {v v1 : Value} {l : List (Int × Int)} {w0 w1 : World} (h : SR w B v l) (hb : Below B w0 w) (hB : B ≤ w.heap.size) (hg : Gr w w1 v v1) : Below B w0 w1 :=
  hb.trans (hg.below hB (fun k hk => (World.ownsRow.lt h k hk).1))

def lenOf : Value → Nat
  | .slice _ n _ => n
  | _ => 0

set_option maxRecDepth 100000 in
set_option maxHeartbeats 2000000 in
theorem mergeSpans (a : Option Addr) (ca : Nat) (b : Option Addr) (cb : Nat) (la lb : List (Int × Int)) (w : World) (hsa : SS w a la.length (sF la) (sT la)) (hsb : SS w b lb.length (sF lb) (sT lb))
    (hca : la.length ≤ ca) (hca' : ca ≤ 9223372036854775807) (hcb : lb.length ≤ cb) (hcb' : cb ≤ 9223372036854775807) (ha : Srt la) (hb : Srt lb) (hna : la.length ≤ 1000) (hnb : lb.length ≤ 1000) :
    Calls Tryz.prog 36 #[.slice a la.length ca, .slice b lb.length cb] w fun e w' => ∃ v l, e = .returned v ∧ SR w' w.heap.size v l ∧ Below w.heap.size w w' ∧ Srt l ∧ (∀ x, In l x ↔ (In la x ∨ In lb x)) ∧ l.length ≤ la.length + lb.length := by
  obtain ⟨i0, hi, hz0, hz1, hz2⟩ := info_parts Tryz.infoSpan
  have HSA := hid (Sfx.start hsa)
  have HSB := hid (Sfx.start hsb)
  have HRA := hid ha
  have HRB := hid hb
  have HLO : Hid (∀ m, Srt m → ∀ q ∈ m, 0 ≤ q.2 ∧ q.2 ≤ 1000000000) := fun m hm q hq => by have := hm.2 q hq; omega
  clear hsa hsb ha hb
  obtain ⟨na, hna1⟩ : ∃ na, la.length = na := ⟨_, rfl⟩
  obtain ⟨nb, hnb1⟩ : ∃ nb, lb.length = nb := ⟨_, rfl⟩
  rw [hna1] at HSA hca hna
  rw [hnb1] at HSB hcb hnb
  rw [hna1, hnb1]
  have HNA := hid hna1
  have HNB := hid hnb1
  clear hna1 hnb1
  obtain ⟨cc, hcc⟩ : ∃ cc : Nat, na + nb = cc := ⟨_, rfl⟩
  have hw : IntKind.i64.wrap ((na : Int) + (nb : Int)) = (cc : Int) := by rw [← hcc]; exact wrapIn _ (by omega) (by omega)
  have hmk := run_makeSlice_owned (P := Tryz.prog) w w.heap.size 71 73 i0 _ 2 Tryz.underlying71 hi hz0 hz1 .i64 .i64 cc (by omega) (by rw [hz2]; omega) (by unfold maxLen; omega) (Nat.le_refl _)
  obtain ⟨w1, hmk1, hmk2, hmk3⟩ := hmk
  have HB1 : Hid (Below w.heap.size w w1) := (Below.refl _ _).grown hmk3 (Nat.le_refl _) (fun _ h => by cases h)
  have HR1 : Hid (SR w1 w.heap.size (.slice (some ⟨w.heap.size, 0, none⟩) 0 cc) []) := hmk2
  clear hmk2 hmk3
  have hcl : cc ≤ 2000 := by omega
  clear hcc
  go_enter Tryz.func36, Tryz.ntmps36
  go_wp2_with fail
  go_loopw [0, 1, 5] (fun u0 u1 u5 wr => ∃ (i ia cia : Nat) (xa : Option Addr) (j ib cib : Nat) (xb : Option Addr) (m : List (Int × Int)), u0 = .slice xa ia cia ∧ u1 = .slice xb ib cib ∧ ia ≤ cia ∧ cia ≤ 9223372036854775807 ∧ ib ≤ cib ∧ cib ≤ 9223372036854775807 ∧ ia ≤ 1000 ∧ ib ≤ 1000 ∧ Hid (Sfx w la i ia xa) ∧ Hid (Sfx w lb j ib xb) ∧ Hid (MInv la lb m i j) ∧ Hid (SR wr w.heap.size u5 m) ∧ Hid (Below w.heap.size w wr))
    (fun u0 u1 _ _ => lenOf u0 + lenOf u1)
  case atStart => exact ⟨0, na, ca, a, 0, nb, cb, b, [], rfl, rfl, hca, hca', hcb, hcb', hna, hnb, HSA, HSB, hid (MInv.start la lb), HR1, HB1⟩
  case round =>
    clear hmk1
    obtain ⟨i, ia, cia, xa, j, ib, cib, xb, m, rfl, rfl, ha1, ha2, hb1, hb2, ha3, hb3, hsa, hsb, hmi, hsr, hbel⟩ := hrel
    have hml : m.length ≤ 1000000 := by
      have h1 := hmi.out.len
      have h2 := hsa.out.1
      have h3 := hsb.out.1
      have := HNA.out
      have := HNB.out
      omega
    have hzw := hbel.out.size
    by_cases hboth : 0 < ia ∧ 0 < ib
    · obtain ⟨hpa, hpb⟩ := hboth
      obtain ⟨ga, oa, rfl, hga, ca0, ca1⟩ := (hsa.out.below hbel.out).block hpa
      obtain ⟨gb, ob, rfl, hgb, cb0, cb1⟩ := (hsb.out.below hbel.out).block hpb
      obtain ⟨ka, rfl⟩ : ∃ ka, ia = ka + 1 := ⟨ia - 1, by omega⟩
      obtain ⟨kb, rfl⟩ : ∃ kb, ib = kb + 1 := ⟨ib - 1, by omega⟩
      obtain ⟨kca, rfl⟩ : ∃ k, cia = k + 1 := ⟨cia - 1, by omega⟩
      obtain ⟨kcb, rfl⟩ : ∃ k, cib = k + 1 := ⟨cib - 1, by omega⟩
      have HGA : Hid (ga < w.heap.size) := by
        rcases hsa.out.2 with h | ⟨g, o, e, hg, _⟩
        · omega
        · injection e with e; injection e with e1 e2; subst e1; exact hid hg
      have HGB : Hid (gb < w.heap.size) := by
        rcases hsb.out.2 with h | ⟨g, o, e, hg, _⟩
        · omega
        · injection e with e; injection e with e1 e2; subst e1; exact hid hg
      have HRd : Hid (SR wr.drew.drew w.heap.size u5 m) := hsr.out
      have HIA : Hid (i < la.length) := by have := hsa.out.1; exact hid (by omega)
      have HJB : Hid (j < lb.length) := by have := hsb.out.1; exact hid (by omega)
      have hneA : some ga ≠ u5.ownBlock := fun e => by have := (World.ownsRow.lt hsr.out ga e.symm).1; have := HGA.out; omega
      have hneB : some gb ≠ u5.ownBlock := fun e => by have := (World.ownsRow.lt hsr.out gb e.symm).1; have := HGB.out; omega
      clear hga hgb
      by_cases hle : sF la i ≤ sF lb j
      · have t1 : decide (sF la i ≤ sF lb j) = true := by simp; exact hle
        obtain ⟨xa', hxa⟩ : ∃ x, (if kca = 0 then some (⟨ga, oa, none⟩ : Addr) else some ⟨ga, oa + 2, none⟩) = x := ⟨_, rfl⟩
        have hn1 : (1 : Int) ≤ (ka : Int) + 1 := by omega
        have HNX : Hid (Sfx w la (i + 1) ka xa') := by
          by_cases h0 : kca = 0
          · exact hid ⟨by have := hsa.out.1; omega, .inl (by omega)⟩
          · rw [if_neg h0] at hxa; subst hxa; exact hid hsa.out.next
        have HMI := hid (hmi.out.stepA HRA.out HRB.out HIA.out (fun _ => hle))
        clear hle
        go_wp2_with fail
        refine wp_region_held_drew (S := fun w' => w'.cell? ⟨ga, oa, none⟩ = some (.int .i64 (sF la i)) ∧ w'.cell? ⟨gb, ob, none⟩ = some (.int .i64 (sF lb j))) (by kernel_rfl) ⟨ca0, cb0⟩ (fun hHeld => ?_)
        refine take1 (i := 0) (d := some 24) (v := ?_) (by kernel_rfl) (by kernel_rfl) (by kernel_rfl) (by kernel_rfl) (fun _ _ _ h => h) ?_ hHeld ?_
        rotate_left
        · (intro o ho; simp only [List.getElem?_toArray, List.getElem?_cons_succ, List.getElem?_cons_zero, Option.some.injEq] at ho; subst ho; refine Or.inl ⟨by rfl, ?_⟩; intro w hSw; (try dsimp only at hSw); go_simp; try with_reducible rfl)
        try simp only [Act.put, List.setIfInBounds_toArray, List.set_cons_zero, List.set_cons_succ]
        refine take1 (i := 1) (d := some 25) (v := ?_) (by kernel_rfl) (by kernel_rfl) (by kernel_rfl) (by kernel_rfl) (fun _ _ _ h => h) ?_ hHeld ?_
        rotate_left
        · (intro o ho; simp only [List.getElem?_toArray, List.getElem?_cons_succ, List.getElem?_cons_zero, Option.some.injEq] at ho; subst ho; refine Or.inl ⟨by rfl, ?_⟩; intro w hSw; (try dsimp only at hSw); go_simp; try with_reducible rfl)
        try simp only [Act.put, List.setIfInBounds_toArray, List.set_cons_zero, List.set_cons_succ]
        refine take1 (i := 2) (d := some 26) (v := ?_) (by kernel_rfl) (by kernel_rfl) (by kernel_rfl) (by kernel_rfl) (fun _ _ _ h => h) ?_ hHeld ?_
        rotate_left
        · (intro o ho; simp only [List.getElem?_toArray, List.getElem?_cons_succ, List.getElem?_cons_zero, Option.some.injEq] at ho; subst ho; refine Or.inl ⟨by rfl, ?_⟩; intro w hSw; (try dsimp only at hSw); go_simp; try with_reducible rfl)
        try simp only [Act.put, List.setIfInBounds_toArray, List.set_cons_zero, List.set_cons_succ]
        refine take1 (i := 3) (d := some 27) (v := ?_) (by kernel_rfl) (by kernel_rfl) (by kernel_rfl) (by kernel_rfl) (fun _ _ _ h => h) ?_ hHeld ?_
        rotate_left
        · (intro o ho; simp only [List.getElem?_toArray, List.getElem?_cons_succ, List.getElem?_cons_zero, Option.some.injEq] at ho; subst ho; refine Or.inl ⟨by rfl, ?_⟩; intro w hSw; (try dsimp only at hSw); go_simp; try with_reducible rfl)
        try simp only [Act.put, List.setIfInBounds_toArray, List.set_cons_zero, List.set_cons_succ]
        refine take1 (i := 4) (d := some 28) (v := ?_) (by kernel_rfl) (by kernel_rfl) (by kernel_rfl) (by kernel_rfl) (fun _ _ _ h => h) ?_ hHeld ?_
        rotate_left
        · (intro o ho; simp only [List.getElem?_toArray, List.getElem?_cons_succ, List.getElem?_cons_zero, Option.some.injEq] at ho; subst ho; refine Or.inl ⟨by rfl, ?_⟩; intro w hSw; (try dsimp only at hSw); go_simp; try with_reducible rfl)
        try simp only [Act.put, List.setIfInBounds_toArray, List.set_cons_zero, List.set_cons_succ]
        refine take1 (i := 5) (d := some 29) (v := ?_) (by kernel_rfl) (by kernel_rfl) (by kernel_rfl) (by kernel_rfl) (fun _ _ _ h => h) ?_ hHeld ?_
        rotate_left
        · (intro o ho; simp only [List.getElem?_toArray, List.getElem?_cons_succ, List.getElem?_cons_zero, Option.some.injEq] at ho; subst ho; refine Or.inl ⟨by rfl, ?_⟩; intro w hSw; (try dsimp only at hSw); go_simp; try with_reducible rfl)
        try simp only [Act.put, List.setIfInBounds_toArray, List.set_cons_zero, List.set_cons_succ]
        refine take1 (i := 6) (d := some 30) (v := ?_) (by kernel_rfl) (by kernel_rfl) (by kernel_rfl) (by kernel_rfl) (fun _ _ _ h => h) ?_ hHeld ?_
        rotate_left
        · (intro o ho; simp only [List.getElem?_toArray, List.getElem?_cons_succ, List.getElem?_cons_zero, Option.some.injEq] at ho; subst ho; refine Or.inl ⟨by rfl, ?_⟩; intro w hSw; (try dsimp only at hSw); go_simp; try with_reducible rfl)
        try simp only [Act.put, List.setIfInBounds_toArray, List.set_cons_zero, List.set_cons_succ]
        refine take1 (i := 7) (d := some 31) (v := ?_) (by kernel_rfl) (by kernel_rfl) (by kernel_rfl) (by kernel_rfl) (fun _ _ _ h => h) ?_ hHeld ?_
        rotate_left
        · (intro o ho; simp only [List.getElem?_toArray, List.getElem?_cons_succ, List.getElem?_cons_zero, Option.some.injEq] at ho; subst ho; refine Or.inl ⟨by rfl, ?_⟩; intro w hSw; (try dsimp only at hSw); go_simp; try with_reducible rfl)
        try simp only [Act.put, List.setIfInBounds_toArray, List.set_cons_zero, List.set_cons_succ]
        refine take1 (i := 8) (d := some 32) (v := ?_) (by kernel_rfl) (by kernel_rfl) (by kernel_rfl) (by kernel_rfl) (fun _ _ _ h => h) ?_ hHeld ?_
        rotate_left
        · (intro o ho; simp only [List.getElem?_toArray, List.getElem?_cons_succ, List.getElem?_cons_zero, Option.some.injEq] at ho; subst ho; refine Or.inl ⟨by rfl, ?_⟩; intro w hSw; (try dsimp only at hSw); go_simp; try with_reducible rfl)
        try simp only [Act.put, List.setIfInBounds_toArray, List.set_cons_zero, List.set_cons_succ]
        refine wpAnyH_done (by kernel_rfl) ?_ _
        clear hHeld
        go_wp2_with fail
        refine wp_region_held_drew (S := fun w' => w'.cell? ⟨ga, oa, none⟩ = some (.int .i64 (sF la i)) ∧ w'.cell? ⟨ga, oa + 1, none⟩ = some (.int .i64 (sT la i))) (by kernel_rfl) ⟨ca0, ca1⟩ (fun hHeld => ?_)
        refine take1 (i := 0) (d := some 33) (v := ?_) (by kernel_rfl) (by kernel_rfl) (by kernel_rfl) (by kernel_rfl) (fun _ _ _ h => h) ?_ hHeld ?_
        rotate_left
        · (intro o ho; simp only [List.getElem?_toArray, List.getElem?_cons_succ, List.getElem?_cons_zero, Option.some.injEq] at ho; subst ho; refine Or.inl ⟨by rfl, ?_⟩; intro w hSw; (try dsimp only at hSw); go_simp; try with_reducible rfl)
        try simp only [Act.put, List.setIfInBounds_toArray, List.set_cons_zero, List.set_cons_succ]
        refine take1 (i := 1) (d := some 34) (v := ?_) (by kernel_rfl) (by kernel_rfl) (by kernel_rfl) (by kernel_rfl) (fun _ _ _ h => h) ?_ hHeld ?_
        rotate_left
        · (intro o ho; simp only [List.getElem?_toArray, List.getElem?_cons_succ, List.getElem?_cons_zero, Option.some.injEq] at ho; subst ho; refine Or.inl ⟨by rfl, ?_⟩; intro w hSw; (try dsimp only at hSw); go_simp; try with_reducible rfl)
        try simp only [Act.put, List.setIfInBounds_toArray, List.set_cons_zero, List.set_cons_succ]
        refine take1 (i := 2) (d := some 35) (v := ?_) (by kernel_rfl) (by kernel_rfl) (by kernel_rfl) (by kernel_rfl) (fun _ _ _ h => h) ?_ hHeld ?_
        rotate_left
        · (intro o ho; simp only [List.getElem?_toArray, List.getElem?_cons_succ, List.getElem?_cons_zero, Option.some.injEq] at ho; subst ho; refine Or.inl ⟨by rfl, ?_⟩; intro w hSw; (try dsimp only at hSw); go_simp; try with_reducible rfl)
        try simp only [Act.put, List.setIfInBounds_toArray, List.set_cons_zero, List.set_cons_succ]
        refine take1 (i := 3) (d := some 36) (v := ?_) (by kernel_rfl) (by kernel_rfl) (by kernel_rfl) (by kernel_rfl) (fun _ _ _ h => h) ?_ hHeld ?_
        rotate_left
        · (intro o ho; simp only [List.getElem?_toArray, List.getElem?_cons_succ, List.getElem?_cons_zero, Option.some.injEq] at ho; subst ho; refine Or.inl ⟨by rfl, ?_⟩; intro w hSw; (try dsimp only at hSw); go_simp; try with_reducible rfl)
        try simp only [Act.put, List.setIfInBounds_toArray, List.set_cons_zero, List.set_cons_succ]
        refine take1 (i := 5) (d := some 38) (v := ?_) (by kernel_rfl) (by kernel_rfl) (by kernel_rfl) (by kernel_rfl) (fun _ _ _ h => h) ?_ hHeld ?_
        rotate_left
        · (intro o ho; simp only [List.getElem?_toArray, List.getElem?_cons_succ, List.getElem?_cons_zero, Option.some.injEq] at ho; subst ho; refine Or.inl ⟨by rfl, ?_⟩; intro w hSw; (try dsimp only at hSw); go_simp; try with_reducible rfl)
        try simp only [Act.put, List.setIfInBounds_toArray, List.set_cons_zero, List.set_cons_succ]
        refine take1 (i := 6) (d := some 39) (v := ?_) (by kernel_rfl) (by kernel_rfl) (by kernel_rfl) (by kernel_rfl) (fun _ _ _ h => h) ?_ hHeld ?_
        rotate_left
        · (intro o ho; simp only [List.getElem?_toArray, List.getElem?_cons_succ, List.getElem?_cons_zero, Option.some.injEq] at ho; subst ho; refine Or.inl ⟨by rfl, ?_⟩; intro w hSw; (try dsimp only at hSw); go_simp; try with_reducible rfl)
        try simp only [Act.put, List.setIfInBounds_toArray, List.set_cons_zero, List.set_cons_succ]
        refine call1 (i := 4) (d := some 37) (by kernel_rfl) (by kernel_rfl) ?_
        intro o ho hod K hK; simp only [List.getElem?_toArray, List.getElem?_cons_succ, List.getElem?_cons_zero, Option.some.injEq] at ho; subst ho
        go_simp
        refine (appendSpan w.heap.size _ m (sF la i) (sT la i) wr.drew.drew hzw hml HRd.out (HLO.out m hmi.out.s)).mono ?_
        rintro e w2 ⟨v2, rfl, hs2, hg2⟩
        have hgr2 : Gr wr w2 u5 v2 := ((Gr.refl wr u5).drew.drew).trans hg2
        have HB2 := hid (hsr.out.below hbel.out hzw hgr2)
        have HS2 := hid hs2
        have d0 : w2.cell? ⟨ga, oa, none⟩ = some (.int .i64 (sF la i)) := hgr2.g.cell ca0 hneA
        have d1 : w2.cell? ⟨ga, oa + 1, none⟩ = some (.int .i64 (sT la i)) := hgr2.g.cell ca1 hneA
        clear hs2 hg2 hgr2
        refine hK.out _ _ ⟨d0, d1⟩ (fun hHeld => ?_)
        clear hK K
        try simp only [Act.put, List.setIfInBounds_toArray, List.set_cons_zero, List.set_cons_succ]
        refine take1 (i := 7) (d := some 5) (v := ?_) (by kernel_rfl) (by kernel_rfl) (by kernel_rfl) (by kernel_rfl) (fun _ _ _ h => h) ?_ hHeld ?_
        rotate_left
        · (intro o ho; simp only [List.getElem?_toArray, List.getElem?_cons_succ, List.getElem?_cons_zero, Option.some.injEq] at ho; subst ho; refine Or.inl ⟨by rfl, ?_⟩; intro w hSw; (try dsimp only at hSw); go_simp; try with_reducible rfl)
        try simp only [Act.put, List.setIfInBounds_toArray, List.set_cons_zero, List.set_cons_succ]
        refine take1 (i := 8) (d := some 0) (v := ?_) (by kernel_rfl) (by kernel_rfl) (by kernel_rfl) (by kernel_rfl) (fun _ _ _ h => h) ?_ hHeld ?_
        rotate_left
        · (intro o ho; simp only [List.getElem?_toArray, List.getElem?_cons_succ, List.getElem?_cons_zero, Option.some.injEq] at ho; subst ho; refine Or.inl ⟨by rfl, ?_⟩; intro w hSw; (try dsimp only at hSw); go_simp; try with_reducible rfl)
        try simp only [Act.put, List.setIfInBounds_toArray, List.set_cons_zero, List.set_cons_succ]
        refine wpAnyH_done (by kernel_rfl) ?_ _
        clear hHeld d0 d1 ca0 ca1 cb0 cb1
        go_wp2_with fail
        go_roundw
        case rel => exact ⟨i + 1, ka, kca, xa', j, kb + 1, kcb + 1, _, _, rfl, rfl, by omega, by omega, by omega, by omega, by omega, by omega, HNX, hsb, HMI, HS2, HB2⟩
        case measure => simp [lenOf]
      · have t1 : decide (sF la i ≤ sF lb j) = false := by simp; omega
        obtain ⟨xb', hxb⟩ : ∃ x, (if kcb = 0 then some (⟨gb, ob, none⟩ : Addr) else some ⟨gb, ob + 2, none⟩) = x := ⟨_, rfl⟩
        have hn1 : (1 : Int) ≤ (kb : Int) + 1 := by omega
        have HNX : Hid (Sfx w lb (j + 1) kb xb') := by
          by_cases h0 : kcb = 0
          · exact hid ⟨by have := hsb.out.1; omega, .inl (by omega)⟩
          · rw [if_neg h0] at hxb; subst hxb; exact hid hsb.out.next
        have HMI := hid (hmi.out.stepB HRA.out HRB.out HJB.out (fun _ => by show sF lb j ≤ sF la i; omega))
        clear hle
        go_wp2_with fail
        refine wp_region_held_drew (S := fun w' => w'.cell? ⟨ga, oa, none⟩ = some (.int .i64 (sF la i)) ∧ w'.cell? ⟨gb, ob, none⟩ = some (.int .i64 (sF lb j))) (by kernel_rfl) ⟨ca0, cb0⟩ (fun hHeld => ?_)
        refine take1 (i := 0) (d := some 24) (v := ?_) (by kernel_rfl) (by kernel_rfl) (by kernel_rfl) (by kernel_rfl) (fun _ _ _ h => h) ?_ hHeld ?_
        rotate_left
        · (intro o ho; simp only [List.getElem?_toArray, List.getElem?_cons_succ, List.getElem?_cons_zero, Option.some.injEq] at ho; subst ho; refine Or.inl ⟨by rfl, ?_⟩; intro w hSw; (try dsimp only at hSw); go_simp; try with_reducible rfl)
        try simp only [Act.put, List.setIfInBounds_toArray, List.set_cons_zero, List.set_cons_succ]
        refine take1 (i := 1) (d := some 25) (v := ?_) (by kernel_rfl) (by kernel_rfl) (by kernel_rfl) (by kernel_rfl) (fun _ _ _ h => h) ?_ hHeld ?_
        rotate_left
        · (intro o ho; simp only [List.getElem?_toArray, List.getElem?_cons_succ, List.getElem?_cons_zero, Option.some.injEq] at ho; subst ho; refine Or.inl ⟨by rfl, ?_⟩; intro w hSw; (try dsimp only at hSw); go_simp; try with_reducible rfl)
        try simp only [Act.put, List.setIfInBounds_toArray, List.set_cons_zero, List.set_cons_succ]
        refine take1 (i := 2) (d := some 26) (v := ?_) (by kernel_rfl) (by kernel_rfl) (by kernel_rfl) (by kernel_rfl) (fun _ _ _ h => h) ?_ hHeld ?_
        rotate_left
        · (intro o ho; simp only [List.getElem?_toArray, List.getElem?_cons_succ, List.getElem?_cons_zero, Option.some.injEq] at ho; subst ho; refine Or.inl ⟨by rfl, ?_⟩; intro w hSw; (try dsimp only at hSw); go_simp; try with_reducible rfl)
        try simp only [Act.put, List.setIfInBounds_toArray, List.set_cons_zero, List.set_cons_succ]
        refine take1 (i := 3) (d := some 27) (v := ?_) (by kernel_rfl) (by kernel_rfl) (by kernel_rfl) (by kernel_rfl) (fun _ _ _ h => h) ?_ hHeld ?_
        rotate_left
        · (intro o ho; simp only [List.getElem?_toArray, List.getElem?_cons_succ, List.getElem?_cons_zero, Option.some.injEq] at ho; subst ho; refine Or.inl ⟨by rfl, ?_⟩; intro w hSw; (try dsimp only at hSw); go_simp; try with_reducible rfl)
        try simp only [Act.put, List.setIfInBounds_toArray, List.set_cons_zero, List.set_cons_succ]
        refine take1 (i := 4) (d := some 28) (v := ?_) (by kernel_rfl) (by kernel_rfl) (by kernel_rfl) (by kernel_rfl) (fun _ _ _ h => h) ?_ hHeld ?_
        rotate_left
        · (intro o ho; simp only [List.getElem?_toArray, List.getElem?_cons_succ, List.getElem?_cons_zero, Option.some.injEq] at ho; subst ho; refine Or.inl ⟨by rfl, ?_⟩; intro w hSw; (try dsimp only at hSw); go_simp; try with_reducible rfl)
        try simp only [Act.put, List.setIfInBounds_toArray, List.set_cons_zero, List.set_cons_succ]
        refine take1 (i := 5) (d := some 29) (v := ?_) (by kernel_rfl) (by kernel_rfl) (by kernel_rfl) (by kernel_rfl) (fun _ _ _ h => h) ?_ hHeld ?_
        rotate_left
        · (intro o ho; simp only [List.getElem?_toArray, List.getElem?_cons_succ, List.getElem?_cons_zero, Option.some.injEq] at ho; subst ho; refine Or.inl ⟨by rfl, ?_⟩; intro w hSw; (try dsimp only at hSw); go_simp; try with_reducible rfl)
        try simp only [Act.put, List.setIfInBounds_toArray, List.set_cons_zero, List.set_cons_succ]
        refine take1 (i := 6) (d := some 30) (v := ?_) (by kernel_rfl) (by kernel_rfl) (by kernel_rfl) (by kernel_rfl) (fun _ _ _ h => h) ?_ hHeld ?_
        rotate_left
        · (intro o ho; simp only [List.getElem?_toArray, List.getElem?_cons_succ, List.getElem?_cons_zero, Option.some.injEq] at ho; subst ho; refine Or.inl ⟨by rfl, ?_⟩; intro w hSw; (try dsimp only at hSw); go_simp; try with_reducible rfl)
        try simp only [Act.put, List.setIfInBounds_toArray, List.set_cons_zero, List.set_cons_succ]
        refine take1 (i := 7) (d := some 31) (v := ?_) (by kernel_rfl) (by kernel_rfl) (by kernel_rfl) (by kernel_rfl) (fun _ _ _ h => h) ?_ hHeld ?_
        rotate_left
        · (intro o ho; simp only [List.getElem?_toArray, List.getElem?_cons_succ, List.getElem?_cons_zero, Option.some.injEq] at ho; subst ho; refine Or.inl ⟨by rfl, ?_⟩; intro w hSw; (try dsimp only at hSw); go_simp; try with_reducible rfl)
        try simp only [Act.put, List.setIfInBounds_toArray, List.set_cons_zero, List.set_cons_succ]
        refine take1 (i := 8) (d := some 32) (v := ?_) (by kernel_rfl) (by kernel_rfl) (by kernel_rfl) (by kernel_rfl) (fun _ _ _ h => h) ?_ hHeld ?_
        rotate_left
        · (intro o ho; simp only [List.getElem?_toArray, List.getElem?_cons_succ, List.getElem?_cons_zero, Option.some.injEq] at ho; subst ho; refine Or.inl ⟨by rfl, ?_⟩; intro w hSw; (try dsimp only at hSw); go_simp; try with_reducible rfl)
        try simp only [Act.put, List.setIfInBounds_toArray, List.set_cons_zero, List.set_cons_succ]
        refine wpAnyH_done (by kernel_rfl) ?_ _
        clear hHeld
        go_wp2_with fail
        refine wp_region_held_drew (S := fun w' => w'.cell? ⟨gb, ob, none⟩ = some (.int .i64 (sF lb j)) ∧ w'.cell? ⟨gb, ob + 1, none⟩ = some (.int .i64 (sT lb j))) (by kernel_rfl) ⟨cb0, cb1⟩ (fun hHeld => ?_)
        refine take1 (i := 0) (d := some 40) (v := ?_) (by kernel_rfl) (by kernel_rfl) (by kernel_rfl) (by kernel_rfl) (fun _ _ _ h => h) ?_ hHeld ?_
        rotate_left
        · (intro o ho; simp only [List.getElem?_toArray, List.getElem?_cons_succ, List.getElem?_cons_zero, Option.some.injEq] at ho; subst ho; refine Or.inl ⟨by rfl, ?_⟩; intro w hSw; (try dsimp only at hSw); go_simp; try with_reducible rfl)
        try simp only [Act.put, List.setIfInBounds_toArray, List.set_cons_zero, List.set_cons_succ]
        refine take1 (i := 1) (d := some 41) (v := ?_) (by kernel_rfl) (by kernel_rfl) (by kernel_rfl) (by kernel_rfl) (fun _ _ _ h => h) ?_ hHeld ?_
        rotate_left
        · (intro o ho; simp only [List.getElem?_toArray, List.getElem?_cons_succ, List.getElem?_cons_zero, Option.some.injEq] at ho; subst ho; refine Or.inl ⟨by rfl, ?_⟩; intro w hSw; (try dsimp only at hSw); go_simp; try with_reducible rfl)
        try simp only [Act.put, List.setIfInBounds_toArray, List.set_cons_zero, List.set_cons_succ]
        refine take1 (i := 2) (d := some 42) (v := ?_) (by kernel_rfl) (by kernel_rfl) (by kernel_rfl) (by kernel_rfl) (fun _ _ _ h => h) ?_ hHeld ?_
        rotate_left
        · (intro o ho; simp only [List.getElem?_toArray, List.getElem?_cons_succ, List.getElem?_cons_zero, Option.some.injEq] at ho; subst ho; refine Or.inl ⟨by rfl, ?_⟩; intro w hSw; (try dsimp only at hSw); go_simp; try with_reducible rfl)
        try simp only [Act.put, List.setIfInBounds_toArray, List.set_cons_zero, List.set_cons_succ]
        refine take1 (i := 3) (d := some 43) (v := ?_) (by kernel_rfl) (by kernel_rfl) (by kernel_rfl) (by kernel_rfl) (fun _ _ _ h => h) ?_ hHeld ?_
        rotate_left
        · (intro o ho; simp only [List.getElem?_toArray, List.getElem?_cons_succ, List.getElem?_cons_zero, Option.some.injEq] at ho; subst ho; refine Or.inl ⟨by rfl, ?_⟩; intro w hSw; (try dsimp only at hSw); go_simp; try with_reducible rfl)
        try simp only [Act.put, List.setIfInBounds_toArray, List.set_cons_zero, List.set_cons_succ]
        refine take1 (i := 5) (d := some 45) (v := ?_) (by kernel_rfl) (by kernel_rfl) (by kernel_rfl) (by kernel_rfl) (fun _ _ _ h => h) ?_ hHeld ?_
        rotate_left
        · (intro o ho; simp only [List.getElem?_toArray, List.getElem?_cons_succ, List.getElem?_cons_zero, Option.some.injEq] at ho; subst ho; refine Or.inl ⟨by rfl, ?_⟩; intro w hSw; (try dsimp only at hSw); go_simp; try with_reducible rfl)
        try simp only [Act.put, List.setIfInBounds_toArray, List.set_cons_zero, List.set_cons_succ]
        refine take1 (i := 6) (d := some 46) (v := ?_) (by kernel_rfl) (by kernel_rfl) (by kernel_rfl) (by kernel_rfl) (fun _ _ _ h => h) ?_ hHeld ?_
        rotate_left
        · (intro o ho; simp only [List.getElem?_toArray, List.getElem?_cons_succ, List.getElem?_cons_zero, Option.some.injEq] at ho; subst ho; refine Or.inl ⟨by rfl, ?_⟩; intro w hSw; (try dsimp only at hSw); go_simp; try with_reducible rfl)
        try simp only [Act.put, List.setIfInBounds_toArray, List.set_cons_zero, List.set_cons_succ]
        refine call1 (i := 4) (d := some 44) (by kernel_rfl) (by kernel_rfl) ?_
        intro o ho hod K hK; simp only [List.getElem?_toArray, List.getElem?_cons_succ, List.getElem?_cons_zero, Option.some.injEq] at ho; subst ho
        go_simp
        refine (appendSpan w.heap.size _ m (sF lb j) (sT lb j) wr.drew.drew hzw hml HRd.out (HLO.out m hmi.out.s)).mono ?_
        rintro e w2 ⟨v2, rfl, hs2, hg2⟩
        have hgr2 : Gr wr w2 u5 v2 := ((Gr.refl wr u5).drew.drew).trans hg2
        have HB2 := hid (hsr.out.below hbel.out hzw hgr2)
        have HS2 := hid hs2
        have d0 : w2.cell? ⟨gb, ob, none⟩ = some (.int .i64 (sF lb j)) := hgr2.g.cell cb0 hneB
        have d1 : w2.cell? ⟨gb, ob + 1, none⟩ = some (.int .i64 (sT lb j)) := hgr2.g.cell cb1 hneB
        clear hs2 hg2 hgr2
        refine hK.out _ _ ⟨d0, d1⟩ (fun hHeld => ?_)
        clear hK K
        try simp only [Act.put, List.setIfInBounds_toArray, List.set_cons_zero, List.set_cons_succ]
        refine take1 (i := 7) (d := some 5) (v := ?_) (by kernel_rfl) (by kernel_rfl) (by kernel_rfl) (by kernel_rfl) (fun _ _ _ h => h) ?_ hHeld ?_
        rotate_left
        · (intro o ho; simp only [List.getElem?_toArray, List.getElem?_cons_succ, List.getElem?_cons_zero, Option.some.injEq] at ho; subst ho; refine Or.inl ⟨by rfl, ?_⟩; intro w hSw; (try dsimp only at hSw); go_simp; try with_reducible rfl)
        try simp only [Act.put, List.setIfInBounds_toArray, List.set_cons_zero, List.set_cons_succ]
        refine take1 (i := 8) (d := some 1) (v := ?_) (by kernel_rfl) (by kernel_rfl) (by kernel_rfl) (by kernel_rfl) (fun _ _ _ h => h) ?_ hHeld ?_
        rotate_left
        · (intro o ho; simp only [List.getElem?_toArray, List.getElem?_cons_succ, List.getElem?_cons_zero, Option.some.injEq] at ho; subst ho; refine Or.inl ⟨by rfl, ?_⟩; intro w hSw; (try dsimp only at hSw); go_simp; try with_reducible rfl)
        try simp only [Act.put, List.setIfInBounds_toArray, List.set_cons_zero, List.set_cons_succ]
        refine wpAnyH_done (by kernel_rfl) ?_ _
        clear hHeld d0 d1 ca0 ca1 cb0 cb1
        go_wp2_with fail
        go_roundw
        case rel => exact ⟨i, ka + 1, kca + 1, _, j + 1, kb, kcb, xb', _, rfl, rfl, by omega, by omega, by omega, by omega, by omega, by omega, hsa, HNX, HMI, HS2, HB2⟩
        case measure => simp [lenOf]
    · have HBO : Hid (ia = 0 ∨ ib = 0) := hid (by omega)
      clear hboth
      rcases Nat.eq_zero_or_pos ia with hia | hia
      case' inl =>
        have e1 : decide (0 < ia) = false := by simp; exact hia
        clear hia
        go_wp2_with fail
      case' inr =>
        have e1 : decide (0 < ia) = true := by simp; exact hia
        have e2 : decide (0 < ib) = false := by simp; have := HBO.out; omega
        clear hia
        go_wp2_with fail
      all_goals (
        go_loopw [5, 49] (fun v5 iv wr2 => ∃ (k : Nat) (m' : List (Int × Int)), k ≤ ia ∧ iv = .int .i64 k ∧ Hid (MInv la lb m' (i + k) j) ∧ Hid (SR wr2 w.heap.size v5 m') ∧ Hid (Below w.heap.size w wr2)) (fun _ iv _ => ia - (intOf iv).toNat)
        case atStart => exact ⟨0, m, Nat.zero_le _, rfl, hmi, hsr, hbel⟩
        case round =>
          clear hmi hsr hbel hzw hml
          obtain ⟨k, m', hk, rfl, hmi2, hsr2, hbel2⟩ := hrel
          have hml2 : m'.length ≤ 1000000 := by
            have h1 := hmi2.out.len
            have := HNA.out
            have := HNB.out
            omega
          have hzw2 := hbel2.out.size
          by_cases hlt : k < ia
          · have hcell : ∃ g o, xa = some ⟨g, o, none⟩ ∧ wr.cell? ⟨g, o + k * 2, none⟩ = some (.int .i64 (sF la (i + k))) ∧ wr.cell? ⟨g, o + k * 2 + 1, none⟩ = some (.int .i64 (sT la (i + k))) := by
              rcases (hsa.out.below hbel2.out).2 with h | ⟨g, o, e, hg, hc⟩
              · omega
              · exact ⟨g, o, e, hc k hlt⟩
            obtain ⟨g, o, rfl, c0, c1⟩ := hcell
            have HMI := hid (hmi2.out.stepA HRA.out HRB.out (by have := hsa.out.1; omega) (fun hj => by have := hsb.out.1; have := HBO.out; omega))
            obtain ⟨qf, hqf⟩ : ∃ q, sF la (i + k) = q := ⟨_, rfl⟩
            obtain ⟨qt, hqt⟩ : ∃ q, sT la (i + k) = q := ⟨_, rfl⟩
            have HQ : Hid (la.getD (i + k) (0, 0) = (qf, qt)) := by rw [← hqf, ← hqt]; exact rfl
            rw [hqf] at c0
            rw [hqt] at c1
            clear hqf hqt
            obtain ⟨W1, hW1⟩ : ∃ W1, wr.alloc (.cells #[.int .i64 qf, .int .i64 qt] 73) = W1 := ⟨_, rfl⟩
            have r0 : W1.cell? ⟨wr.heap.size, 0, none⟩ = some (.int .i64 qf) := by rw [← hW1]; simp
            have r1 : W1.cell? ⟨wr.heap.size, 1, none⟩ = some (.int .i64 qt) := by rw [← hW1]; simp
            have HS1 : Hid (SR W1 w.heap.size u5 m') := by rw [← hW1]; exact World.ownsRow.alloc hsr2.out _
            have HG1 : Hid (Gr wr W1 u5 u5) := by rw [← hW1]; exact (Gr.refl _ _).alloc _
            have HZ1 : Hid (w.heap.size ≤ W1.heap.size) := by have := HG1.out.g.size; exact hid (by omega)
            go_wp2_with fail
            try rw [hW1]
            refine (appendSpan w.heap.size u5 m' qf qt W1 HZ1.out hml2 HS1.out (HLO.out m' hmi2.out.s)).mono ?_
            rintro e w2 ⟨v2, rfl, hs2, hg2⟩
            have HB2 := hid (hsr2.out.below hbel2.out hzw2 (HG1.out.trans hg2))
            have HS2 := hid hs2
            clear hs2 hg2 hW1 c0 c1 r0 r1
            go_wp2_with fail
            go_roundw
            case rel => exact ⟨k + 1, _, hlt, by go_num, by have := HMI; rw [HQ.out] at this; exact this, HS2, HB2⟩
            case measure => simp [intOf]; omega
          · obtain rfl : k = ia := by omega
            have HM2 : Hid (MInv la lb m' la.length j) := by
              have h1 := hsa.out.1
              have h2 := hmi2.out
              rw [h1] at h2
              exact hid h2
            clear hlt hmi2
            go_wp2_with fail
            go_loopw [5, 59] (fun v5 iv wr2 => ∃ (k : Nat) (m' : List (Int × Int)), k ≤ ib ∧ iv = .int .i64 k ∧ Hid (MInv la lb m' la.length (j + k)) ∧ Hid (SR wr2 w.heap.size v5 m') ∧ Hid (Below w.heap.size w wr2)) (fun _ iv _ => ib - (intOf iv).toNat)
            case atStart => exact ⟨0, m', Nat.zero_le _, rfl, HM2, hsr2, hbel2⟩
            case round =>
              clear HM2 hsr2 hbel2 hzw2 hml2 hk
              obtain ⟨k, m', hk, rfl, hmi2, hsr2, hbel2⟩ := hrel
              have hml2 : m'.length ≤ 1000000 := by
                have h1 := hmi2.out.len
                have := HNA.out
                have := HNB.out
                omega
              have hzw2 := hbel2.out.size
              by_cases hlt : k < ib
              · have hcell : ∃ g o, xb = some ⟨g, o, none⟩ ∧ wr.cell? ⟨g, o + k * 2, none⟩ = some (.int .i64 (sF lb (j + k))) ∧ wr.cell? ⟨g, o + k * 2 + 1, none⟩ = some (.int .i64 (sT lb (j + k))) := by
                  rcases (hsb.out.below hbel2.out).2 with h | ⟨g, o, e, hg, hc⟩
                  · omega
                  · exact ⟨g, o, e, hc k hlt⟩
                obtain ⟨g, o, rfl, c0, c1⟩ := hcell
                have HMI := hid (hmi2.out.stepB HRA.out HRB.out (by have := hsb.out.1; omega) (fun hj => by omega))
                obtain ⟨qf, hqf⟩ : ∃ q, sF lb (j + k) = q := ⟨_, rfl⟩
                obtain ⟨qt, hqt⟩ : ∃ q, sT lb (j + k) = q := ⟨_, rfl⟩
                have HQ : Hid (lb.getD (j + k) (0, 0) = (qf, qt)) := by rw [← hqf, ← hqt]; exact rfl
                rw [hqf] at c0
                rw [hqt] at c1
                clear hqf hqt
                obtain ⟨W1, hW1⟩ : ∃ W1, wr.alloc (.cells #[.int .i64 qf, .int .i64 qt] 73) = W1 := ⟨_, rfl⟩
                have r0 : W1.cell? ⟨wr.heap.size, 0, none⟩ = some (.int .i64 qf) := by rw [← hW1]; simp
                have r1 : W1.cell? ⟨wr.heap.size, 1, none⟩ = some (.int .i64 qt) := by rw [← hW1]; simp
                have HS1 : Hid (SR W1 w.heap.size u5 m') := by rw [← hW1]; exact World.ownsRow.alloc hsr2.out _
                have HG1 : Hid (Gr wr W1 u5 u5) := by rw [← hW1]; exact (Gr.refl _ _).alloc _
                have HZ1 : Hid (w.heap.size ≤ W1.heap.size) := by have := HG1.out.g.size; exact hid (by omega)
                go_wp2_with fail
                try rw [hW1]
                refine (appendSpan w.heap.size u5 m' qf qt W1 HZ1.out hml2 HS1.out (HLO.out m' hmi2.out.s)).mono ?_
                rintro e w2 ⟨v2, rfl, hs2, hg2⟩
                have HB2 := hid (hsr2.out.below hbel2.out hzw2 (HG1.out.trans hg2))
                have HS2 := hid hs2
                clear hs2 hg2 hW1 c0 c1 r0 r1
                go_wp2_with fail
                go_roundw
                case rel => exact ⟨k + 1, _, hlt, by go_num, by have := HMI; rw [HQ.out] at this; exact this, HS2, HB2⟩
                case measure => simp [intOf]; omega
              · obtain rfl : k = ib := by omega
                have HD : Hid (Srt m' ∧ (∀ x, In m' x ↔ (In la x ∨ In lb x)) ∧ m'.length ≤ la.length + lb.length) := by
                  have h1 := hsb.out.1
                  have h2 := hmi2.out
                  rw [h1] at h2
                  exact hid h2.done
                clear hmi2 hlt
                go_wp2_with fail
                go_ret
                refine ⟨_, m', rfl, hsr2.out, hbel2.out, HD.out.1, HD.out.2.1, ?_⟩
                have := HD.out.2.2
                have := HNA.out
                have := HNB.out
                omega)
end Go.Proofs.YtbimcammjohaoadGreatDoor

namespace Go.Proofs.YtbimcammjohaoadGreatDoor
open Go.ChangeShapes Go.WideShapes Go.ChangeAt Go.RowKit Go.Maps Go.Sort
set_option linter.unusedVariables false
set_option linter.unusedSimpArgs false

theorem copyM (bd bs nd ns : Nat) (Dd Ds : DataW Value) (w : World) (hd : w.ownsMap Tryz.prog 3 rawR bd nd Dd) (hs : w.ownsMap Tryz.prog 3 rawR bs ns Ds) (hne : bd ≠ bs) (hroom : nd + Maps.size Ds ≤ maxLen) :
    Calls Tryz.prog 35 #[.map (some bd), .map (some bs)] w fun e w' => e = .returned (.tuple #[]) ∧ (∃ D, w'.ownsMap Tryz.prog 3 rawR bd (nd + Maps.size Ds) D ∧ Merged D Dd Ds (fun _ => false)) ∧ w.grownBy w' (some bd) := by
  have hbd := hd.lt
  have hbs := hs.lt
  go_enter Tryz.func35, Tryz.ntmps35
  go_wp2_with (at_range; refine wpList_range_own _ rfl _ 49 rfl 3 71 (int_keyed Tryz.underlying3) Tryz.underlying49 rawR bs ns Ds rfl hs ?_; intro w0 hrg0 hg0 hs0)
  go_frame
  go_loopw [8] (fun _ wr => ∃ (left : Lit → Bool) (cnt : Nat) (Dout : DataW Value), wr.ranges Tryz.prog 3 rawR bs w.heap.size ns Ds left cnt ∧ cnt ≤ Maps.size Ds ∧
      wr.ownsMap Tryz.prog 3 rawR bd (nd + (Maps.size Ds - cnt)) Dout ∧ Merged Dout Dd Ds left ∧ w.grownBy wr (some bd))
    (fun _ wr => wr.rangeLeft bs w.heap.size)
  case atStart =>
    exact ⟨_, _, Dd, hrg0, Nat.le_refl _, (hd.kept hg0 (by simp)).mono (by omega), merged_start Dd Ds, hg0.but _⟩
  case round =>
    obtain ⟨left, cnt, Dout, hrg, hcs, hout, hM, hgw⟩ := hrel
    go_wp2_with (at_next; refine wpList_next_raw _ rfl _ rfl 3 (int_keyed Tryz.underlying3) Tryz.underlying3 bs w.heap.size ns _ _ _ rfl hrg ?_ ?_)
    · intro hl0
      have hM' : Merged Dout Dd Ds (fun _ => false) := by
        have e : left = fun _ => false := funext hl0
        rw [← e]; exact hM
      have H := hid (And.intro hout (And.intro hM' hgw))
      clear hM hM' hgw hout hrg
      go_wp2
      go_end0
      exact ⟨rfl, ⟨Dout, H.out.1.mono (by omega), H.out.2.1⟩, H.out.2.2⟩
    · intro x va vn vc w1 cnt1 hwx hlx hat hrg1 hlt hg1 hs1 hen
      have hout1 := hout.kept hg1 (fun e => by have := Option.some.inj e; omega)
      have hkey : keyOf Tryz.prog 3 (.int .i64 x) = some (kI x) := keyOf_int_mk Tryz.underlying3 hwx
      go_wp2_with (at_mapUpdate; refine wpList_mapUpdate_own _ rfl _ _ _ 49 rfl 3 71 (int_keyed Tryz.underlying3) Tryz.underlying49 rawR bd _ _ rfl hout1 (by omega) _ _ _ rfl rfl hkey (.held (.slice va vn vc)) [] rfl ?_; intro w2 hout2 hg2; go_frame)
      have hrg2 := hrg1.kept hg2 (fun e => hne (Option.some.inj e).symm) (fun e => by have := Option.some.inj e; omega)
      go_roundw
      case rel =>
        exact ⟨_, cnt1, _, hrg2, by omega, hout2.mono (by omega), merged_step hM hout.isMap (show WideAt.IsKeyLit (kI x) from trivial) hat, (hgw.andThen hg1 (fun j hj => .inl (by cases hj; exact Nat.le_refl _))).andThen hg2 (fun j hj => .inr hj)⟩
      case measure => rw [hrg2.left_eq, hrg.left_eq]; exact hlt
end Go.Proofs.YtbimcammjohaoadGreatDoor
