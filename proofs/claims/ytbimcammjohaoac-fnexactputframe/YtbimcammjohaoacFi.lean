import Derived.Test.YtbimcammjohaoacFp
namespace Go.Proofs.Ytbimcammjohaoac
open Go.ChangeShapes Go.WideShapes Go.ChangeAt Go.RowKit
set_option linter.unusedVariables false
set_option linter.unusedSimpArgs false

theorem Own.weakF {w : World} {B B' : Nat} {v : Value} {zs : List Int} (h : Own w B v zs) (hB : B' ≤ B) : Own w B' v zs := by
  obtain ⟨h1, h2⟩ := h
  refine ⟨h1, h2.imp id ?_⟩
  rintro ⟨g, cap, cur, e, hg, r⟩
  exact ⟨g, cap, cur, e, by omega, r⟩

theorem kindOkC (k : Int) (w : World) (hk0 : -9223372036854775808 ≤ k) (hk1 : k ≤ 9223372036854775807) :
    Calls Try.prog 32 #[.int .i64 k] w fun e w' => e = .returned (.bool (decide (1 ≤ k) && decide (k ≤ 3))) ∧ w' = w := by
  by_cases h1 : k = 1
  · subst h1
    go_enter Try.func32, Try.ntmps32
    go_wp2_with fail
    go_ret
    exact ⟨rfl, rfl⟩
  · by_cases h2 : k = 2
    · subst h2
      go_enter Try.func32, Try.ntmps32
      go_wp2_with fail
      go_ret
      exact ⟨rfl, rfl⟩
    · by_cases h3 : k = 3
      · subst h3
        go_enter Try.func32, Try.ntmps32
        go_wp2_with fail
        go_ret
        exact ⟨rfl, rfl⟩
      · have d1 : (k == 1) = false := by simpa using h1
        have d2 : (k == 2) = false := by simpa using h2
        have d3 : (k == 3) = false := by simpa using h3
        have e : Hid ((decide (1 ≤ k) && decide (k ≤ 3)) = false) := hid (by simp; omega)
        rw [e.out]
        clear h1 h2 h3
        go_enter Try.func32, Try.ntmps32
        go_wp2_with fail
        go_ret
        exact ⟨rfl, rfl⟩

set_option maxRecDepth 100000 in
set_option maxHeartbeats 1000000 in
theorem appendSumC (B : Nat) (bv : Value) (zs : List Int) (V : Int) (w : World) (hB : B ≤ w.heap.size) (hl : zs.length ≤ 1000000000) (ho : Own w B bv zs) (hV : 0 ≤ V ∧ V < 4294967296) :
    Calls Try.prog 34 #[bv, .int .u32 V] w fun e w' => ∃ v, e = .returned v ∧ Own w' B v (zs ++ sum4 V) ∧ Below B w w' := by
  obtain ⟨i0, hi, hz0, hz1, hz2⟩ := info_parts Try.infoByte
  have p1 : IntKind.u8.wrap (V / 16777216) = V / 16777216 := by rw [IntKind.wrap_u8]; omega
  have p2 : IntKind.u8.wrap (V / 65536) = V / 65536 % 256 := by rw [IntKind.wrap_u8]
  have p3 : IntKind.u8.wrap (V / 256) = V / 256 % 256 := by rw [IntKind.wrap_u8]
  have p4 : IntKind.u8.wrap V = V % 256 := by rw [IntKind.wrap_u8]
  have ho' := ho
  unfold Own at ho'
  go_enter Try.func34, Try.ntmps34
  go_wp2_with (at_builtin; refine wpList_app_at rfl _ _ 22 rfl B 5 i0 (.int .u8 0) 1 1 Try.underlying22 hi hz0 hz1 hz2 rfl (by decide) _ _ _ rfl (World.ownsRow.alloc ho' _) ⟨w.heap.size, 0, none⟩ 4 4 [.int .u8 (V / 16777216), .int .u8 (V / 65536 % 256), .int .u8 (V / 256 % 256), .int .u8 (V % 256)] rfl rfl ?d1 ?d2 ?d3 ?d4 ?d5 ?_)
  case d1 => first | exact cell4 _ _ _ _ _ _ | exact cell4A _ _ _ _ _ _
  case d2 => intro u hu; simp at hu; rcases hu with rfl | rfl | rfl | rfl <;> rfl
  case d3 => unfold maxLen; first | omega | (simp; omega)
  case d4 => first | omega | (simp; omega)
  case d5 => simp; omega
  intro v6 w6 hown6 hgr6 hloc6
  have R : Hid (Own w6 B v6 (zs ++ sum4 V)) := by
    unfold Own
    rw [List.length_append, List.map_append]
    exact hid hown6
  have RB := hid (((Below.refl B w).alloc hB (.cells #[.int .u8 (V / 16777216), .int .u8 (V / 65536 % 256), .int .u8 (V / 256 % 256), .int .u8 (V % 256)] 5)).grown hgr6 (by simp; omega) (fun q hq => (World.ownsRow.lt ho q hq).1))
  clear hown6 hgr6 hloc6 ho' ho
  go_wp2_with fail
  go_ret
  exact ⟨_, rfl, R.out, RB.out⟩

set_option maxRecDepth 100000 in
set_option maxHeartbeats 1000000 in
theorem implPFc (g n cp : Nat) (k : Int) (f : Nat → Int) (w : World) (hk0 : -9223372036854775808 ≤ k) (hk1 : k ≤ 9223372036854775807) (hn : n ≤ 1048576) (hf : Byt f) (hs : Seg w (some ⟨g, 0, none⟩) n f) :
    Calls Try.prog 10 #[.agg #[.int .i64 k, .slice (some ⟨g, 0, none⟩) n cp]] w fun e w' => ∃ v, e = .returned (.tuple #[v, .bool (okF k n)]) ∧ Own w' w.heap.size v (frZ k f n) ∧ Below w.heap.size w w' := by
  obtain ⟨i0, hi, hz0, hz1, hz2⟩ := info_parts Try.infoByte
  have HK := hid (fun w' => kindOkC k w' hk0 hk1)
  obtain ⟨W, hW⟩ : ∃ W, w.alloc (.cells #[.int .i64 k, .slice (some ⟨g, 0, none⟩) n cp] 28) = W := ⟨_, rfl⟩
  have bW : Below w.heap.size w W := by rw [← hW]; exact (Below.refl _ _).alloc (Nat.le_refl _) _
  have HZW : Hid (W.heap.size = w.heap.size + 1) := by rw [← hW]; exact hid (by simp)
  have x0 : W.cell? ⟨w.heap.size, 0, none⟩ = some (.int .i64 k) := by rw [← hW]; simp
  have x1 : W.cell? ⟨w.heap.size, 1, none⟩ = some (.slice (some ⟨g, 0, none⟩) n cp) := by rw [← hW]; simp
  have HS := hid (hs.below bW)
  have HBW := hid bW
  have HF := hid hf
  clear hs bW hf
  by_cases hok : (decide (1 ≤ k) && decide (k ≤ 3)) = true
  · have hk : 1 ≤ k ∧ k ≤ 3 := by simpa using hok
    obtain ⟨h1, h3⟩ := hk
    by_cases h4 : 4000 < n
    · have HN : Hid (okF k n = false) := hid (by simp [okF]; omega)
      have HZ : Hid (frZ k f n = []) := by unfold frZ; rw [HN.out]; exact hid rfl
      rw [HN.out]
      have d4 : decide ((4000 : Int) < (n : Int)) = true := by simp; omega
      go_enter Try.func10, Try.ntmps10
      go_wp2_with fail
      try rw [hW]
      clear hW
      refine (HK.out _).mono ?_
      rintro e w' ⟨rfl, rfl⟩
      rw [hok]
      go_wp2_with fail
      go_ret2
      exact ⟨.slice none 0 0, rfl, by rw [HZ.out]; exact World.ownsRow_nil _ _ _ _, HBW.out⟩
    · have HN : Hid (okF k n = true) := hid (by simp [okF]; omega)
      have HZ : Hid (frZ k f n = frB k f n) := by unfold frZ; rw [HN.out]; exact hid rfl
      rw [HN.out]
      have d4 : decide ((4000 : Int) < (n : Int)) = false := by simp; omega
      have e8 : IntKind.u8.wrap k = k := by rw [IntKind.wrap_u8]; omega
      have e6 : IntKind.u64.wrap (n : Int) = (n : Int) := wrapU64 _ (by omega) (by omega)
      obtain ⟨W1, hW1⟩ : ∃ W1, W.alloc (.cells #[.int .u8 199, .int .u8 1, .int .u8 k] 5) = W1 := ⟨_, rfl⟩
      have b1 : Below W.heap.size W W1 := by rw [← hW1]; exact (Below.refl _ _).alloc (Nat.le_refl _) _
      have lit : Own W1 W.heap.size (.slice (some ⟨W.heap.size, 0, none⟩) 3 3) [199, 1, k] := by rw [← hW1]; exact own_lit3 W _ _ _ _ (Nat.le_refl _)
      have y0 := (b1.cell (p := ⟨w.heap.size, 0, none⟩) (show w.heap.size < W.heap.size by have := HZW.out; omega)).trans x0
      have y1 := (b1.cell (p := ⟨w.heap.size, 1, none⟩) (show w.heap.size < W.heap.size by have := HZW.out; omega)).trans x1
      have HB1 := hid (keepS HBW.out b1)
      have HS1 := hid (HS.out.below b1)
      have HLT := hid lit
      have HBB := hid b1
      have z1 := b1.size
      clear b1 lit
      go_enter Try.func10, Try.ntmps10
      go_wp2_with fail
      try rw [hW]
      clear hW
      refine (HK.out _).mono ?_
      rintro e w' ⟨rfl, rfl⟩
      rw [hok]
      go_wp2_with fail
      try rw [hW1]
      clear hW1
      refine (appendUv w'.heap.size n _ [199, 1, k] W1 (by omega) (by omega) (by simp) HLT.out).mono ?_
      rintro e w2 ⟨v2, rfl, o2, b2, z2⟩
      have q0 := (b2.cell (p := ⟨w.heap.size, 0, none⟩) (show w.heap.size < w'.heap.size by have := HZW.out; omega)).trans y0
      have q1 := (b2.cell (p := ⟨w.heap.size, 1, none⟩) (show w.heap.size < w'.heap.size by have := HZW.out; omega)).trans y1
      have HB2 := hid (HBB.out.trans b2)
      have HS2 : Hid (Seg w2 (some ⟨g, 0, none⟩) n f) := by
        rcases HS.out with h | ⟨b, off, e, hb, hc⟩
        · exact hid (.inl h)
        · exact hid (.inr ⟨b, off, e, Nat.lt_of_lt_of_le hb HB2.out.size, fun i hi => (HB2.out.cell (p := ⟨b, off + i, none⟩) hb).trans (hc i hi)⟩)
      have l2 : ([199, 1, k] ++ uvF 9 n).length ≤ 13 := by have := (uvF_len 9 n).1; simp; omega
      obtain ⟨ps, hps⟩ : ∃ ps, [199, 1, k] ++ uvF 9 n = ps := ⟨_, rfl⟩
      rw [hps] at o2 l2
      have HPS := hid hps
      have HO2 := hid o2
      have o2' := o2
      unfold Own at o2'
      have l3 := uvF_len 9 n
      clear o2 b2 y0 y1 HLT HB1 HS1 hps
      go_wp2_with (at_builtin; refine wpList_app_at rfl _ _ 22 rfl w'.heap.size 5 i0 (.int .u8 0) 1 1 Try.underlying22 hi hz0 hz1 hz2 rfl (by decide) _ _ _ rfl o2' ⟨g, 0, none⟩ n cp (cells8 f n) rfl (by simp [cells8]) ?c1 ?c2 ?c3 ?c4 ?c5 ?_)
      case c1 => first | exact seg_newsA HS2.out | exact seg_news HS2.out
      case c2 => intro u hu; obtain ⟨i, _, rfl⟩ := List.mem_map.1 hu; rfl
      case c3 => unfold maxLen; first | omega | (simp; omega)
      case c4 => first | omega | (simp; omega)
      case c5 => have := HB2.out.size; omega
      intro v4 w4 hown4 hgr4 hloc4
      have o4 : Own w4 w'.heap.size v4 (preF k f n) := by
        unfold Own preF
        rw [HPS.out, List.length_append, List.map_append, payl_len]
        have e : (payl f n).map (Value.int .u8) = cells8 f n := by simp [payl, cells8]
        rw [e]
        exact hown4
      have HB4 := hid (HB2.out.grown hgr4 HB2.out.size (fun q hq => (World.ownsRow.lt HO2.out q hq).1))
      have hpl := preF_len k f n
      have hpb : Byt (gz (preF k f n)) := gz_byte (preF_byte HF.out h1 h3 hn)
      have HFB : Hid (frB k f n = preF k f n ++ sum4 (crcEnd (crcI (gz (preF k f n)) (preF k f n).length : Nat))) := hid rfl
      obtain ⟨zs, hzs⟩ : ∃ zs, preF k f n = zs := ⟨_, rfl⟩
      rw [hzs] at o4 HFB hpb hpl
      obtain ⟨a4, c4, rfl, s4⟩ := o4.any
      have hV := crc_u32 hpb zs.length
      have HCR := hid (implCrc a4 zs.length c4 (gz zs) w4 (by omega) hpb s4)
      obtain ⟨V, hVe⟩ : ∃ V, crcEnd (crcI (gz zs) zs.length : Nat) = V := ⟨_, rfl⟩
      rw [hVe] at HCR HFB hV
      have z4 := hgr4.size
      have HAS := hid (appendSumC w'.heap.size (.slice a4 zs.length c4) zs V w4 HB4.out.size (by omega) o4 hV)
      clear hown4 hgr4 hloc4 o2' o4 s4 hVe hzs hpb HO2 HS2
      go_wp2_with fail
      refine HCR.out.mono ?_
      rintro e w5 ⟨rfl, rfl⟩
      go_wp2_with fail
      refine HAS.out.mono ?_
      rintro e w6 ⟨v6, rfl, o6, b6⟩
      have R : Hid (Own w6 w.heap.size v6 (frZ k f n)) := by rw [HZ.out, HFB.out]; exact hid (o6.weakF (by have := HZW.out; omega))
      have RB := hid (HBW.out.trans ((HB4.out.trans b6).mono (by have := HZW.out; omega)))
      clear o6 b6
      go_wp2_with fail
      go_ret2
      exact ⟨_, rfl, R.out, RB.out⟩
  · have hok : (decide (1 ≤ k) && decide (k ≤ 3)) = false := by simpa using hok
    have HN : Hid (okF k n = false) := hid (by unfold okF; rw [hok]; rfl)
    have HZ : Hid (frZ k f n = []) := by unfold frZ; rw [HN.out]; exact hid rfl
    rw [HN.out]
    go_enter Try.func10, Try.ntmps10
    go_wp2_with fail
    try rw [hW]
    clear hW
    refine (HK.out _).mono ?_
    rintro e w' ⟨rfl, rfl⟩
    rw [hok]
    go_wp2_with fail
    go_ret2
    exact ⟨.slice none 0 0, rfl, by rw [HZ.out]; exact World.ownsRow_nil _ _ _ _, HBW.out⟩
theorem implPF (g n : Nat) (k : Int) (f : Nat → Int) (w : World) (hk0 : -9223372036854775808 ≤ k) (hk1 : k ≤ 9223372036854775807) (hn : n ≤ 1048576) (hf : Byt f) (hs : Seg w (some ⟨g, 0, none⟩) n f) :
    Calls Try.prog 10 #[.agg #[.int .i64 k, .slice (some ⟨g, 0, none⟩) n n]] w fun e w' => ∃ v, e = .returned (.tuple #[v, .bool (okF k n)]) ∧ Own w' w.heap.size v (frZ k f n) ∧ Below w.heap.size w w' := implPFc g n n k f w hk0 hk1 hn hf hs
end Go.Proofs.Ytbimcammjohaoac
