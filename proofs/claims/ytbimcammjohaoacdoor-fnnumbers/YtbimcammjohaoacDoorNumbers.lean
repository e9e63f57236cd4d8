import Derived.Test.YtbimcammjohaoacDoorNumT
namespace Go.Proofs.YtbimcammjohaoacDoor.fnNumbers
open Go.ChangeShapes Go.WideShapes Go.ChangeAt Go.RowKit
set_option linter.unusedVariables false
set_option linter.unusedSimpArgs false

set_option maxRecDepth 100000 in
set_option maxHeartbeats 4000000 in
theorem walk1 (w : World) (a : Option Addr) (n c : Nat) (f : Nat → Int) (a' : Option Addr) (n' c' : Nat) (f' : Nat → Int) (aT aS aL aE : Addr) (hnc : n ≤ c) (hn : n ≤ 9223372036854775807) (h : Seg w a n f) (hf : Byt f) (hnc' : n' ≤ c') (hn' : n' ≤ 9223372036854775807) (h' : Seg w a' n' f') (hf' : Byt f') (hE : Errs w w.heap.size aT aS aL aE) (h100 : ¬ n' < 100) :
    Calls Tryd.prog 3 #[.slice a n c, .slice a' n' c'] w fun e w' => e = .returned (.bool true) ∧ Below w.heap.size w w' := by
  obtain ⟨i0, hi, hz0, hz1, hz2⟩ := info_parts Tryd.infoByte
  by_cases hl : n ≤ 1048576
  case neg =>
    go_enter Tryd.func3, Tryd.ntmps3
    go_wp2_with fail
    go_ret
    exact ⟨rfl, Below.refl _ _⟩
  by_cases hl' : n' ≤ 1048576
  case neg =>
    go_enter Tryd.func3, Tryd.ntmps3
    go_wp2_with fail
    go_ret
    exact ⟨rfl, Below.refl _ _⟩
  have HH := hid h
  have HH' := hid h'
  have HF := hid hf
  have HF' := hid hf'
  have HE := hid hE
  clear h h' hf hf' hE
  go_enter Tryd.func3, Tryd.ntmps3
  go_wp2_with fail
  refine (rdUv a n c f _ hnc hn HH.out HF.out).mono ?_
  rintro e w1 ⟨V, hV, rfl, b1⟩
  have HB1 := hid b1
  clear b1
  go_wp2_with fail
  refine (rdText a n c f _ hnc hn (HH.out.below HB1.out) HF.out).mono ?_
  rintro e w2 ⟨s, hs, rfl, b2⟩
  have HB2 := hid (keepS HB1.out b2)
  have z2 := HB2.out.size
  clear b2 HB1
  have ho3 : (w2.alloc (.cells #[] 5)).ownsRow w2.heap.size 5 1 (.slice (some ⟨w2.heap.size, 0, none⟩) 0 0) 0 [] := rowE w2 w2.heap.size (Nat.le_refl _)
  have hb3 : Below w2.heap.size w2 (w2.alloc (.cells #[] 5)) := (Below.refl _ _).alloc (Nat.le_refl _) _
  obtain ⟨W3, hW3⟩ : ∃ W3, w2.alloc (.cells #[] 5) = W3 := ⟨_, rfl⟩
  rw [hW3] at ho3 hb3
  have z3 := hb3.size
  have HB3 := hid (keepS HB2.out hb3)
  have Hb3 := hid hb3
  clear hb3
  have HLh : Hid (([] : List Int).length = 0) := hid rfl
  have hhb : Hid (∀ z ∈ ([] : List Int), 0 ≤ z ∧ z < 256) := fun z hz => by cases hz
  have hd100 : decide ((n' : Int) < 100) = false := by simp; omega
  obtain ⟨w4, hw4⟩ : ∃ w4, W3 = w4 := ⟨_, rfl⟩
  subst hw4
  have hghl := (ho3.lt w2.heap.size rfl).2
  have HCSH : Hid (∀ j u, (([] : List Int).map (Value.int .u8))[j]? = some u → W3.cell? ((⟨w2.heap.size, 0, none⟩ : Addr).add j) = some u) := fun j u hj => by simp at hj
  have HB4 := HB3
  have Hq4 := hid (Below.refl W3.heap.size W3)
  clear ho3 HB3 Hb3
  have HUB1 := hid (uvF_byte 9 V (by omega))
  have HUL1 : Hid ((uvF 9 V).length ≤ 1100) := by have := uvF_len 9 V; show _ ≤ _; omega
  have HUN1 : Hid (uvF 9 V ≠ []) := by have := uvF_len 9 V; intro e; rw [e] at this; simp at this
  have HUB2 : Hid (∀ z ∈ textInts s, 0 ≤ z ∧ z < 256) := fun z hz => by
    rcases List.mem_append.1 hz with h | h
    · exact uvF_byte 9 s.size (by omega) z h
    · exact strInts_byte s z h
  have HUL2 : Hid ((textInts s).length ≤ 1100) := by have := uvF_len 9 s.size; show _ ≤ _; rw [textInts, List.length_append, strInts_length]; omega
  have HUN2 : Hid (textInts s ≠ []) := by have := uvF_len 9 s.size; intro e; have h1 : (textInts s).length = 0 := by rw [e]; rfl
                                          rw [textInts, List.length_append] at h1; omega

  have ho51 := rowE W3 W3.heap.size (Nat.le_refl _)
  have hb51 : Below W3.heap.size W3 (W3.alloc (.cells #[] 5)) := (Below.refl _ _).alloc (Nat.le_refl _) _
  obtain ⟨W5, hW5⟩ : ∃ W5, W3.alloc (.cells #[] 5) = W5 := ⟨_, rfl⟩
  have zW5 : W5.heap.size = W3.heap.size + 1 := by rw [← hW5]; simp
  rw [hW5] at ho51 hb51
  have hr1 : W5.ownsRow W3.heap.size 5 1 (.slice (some ⟨W3.heap.size, 0, none⟩) 0 0) 0 [] := ho51
  have HB51 := hid (keepS HB4.out hb51)
  have Hq51 := hid (Hq4.out.trans (hb51.mono Hq4.out.size))
  have HC1 : Hid (∀ j u, (([] : List Int).map (Value.int .u8))[j]? = some u → W5.cell? ((⟨w2.heap.size, 0, none⟩ : Addr).add j) = some u) := fun j u hj => by
    rw [Hq51.out.cell (p := (⟨w2.heap.size, 0, none⟩ : Addr).add j) (by rw [add_block]; exact hghl)]; exact HCSH.out j u hj
  clear ho51 hb51
  go_wp2_with (at_builtin; refine wpList_append_own _ rfl _ _ 22 rfl W3.heap.size 5 i0 (.int .u8 0) 1 1 Tryd.underlying22 hi hz0 hz1 hz2 rfl (by decide) _ _ _ rfl hr1 ⟨w2.heap.size, 0, none⟩ 0 0 (([] : List Int).map (Value.int .u8)) rfl (by have := HLh.out; simp <;> omega) HC1.out (one_map ([] : List Int)) ?p13 ?p14 ?p15 ?_)
  case p13 => first | (unfold maxLen; omega) | omega
  case p14 => omega
  case p15 => first | omega | (simp; omega)

  intro v6 w6 hown61 hgr61 _
  have hd61 : w6.ownsRow W3.heap.size 5 1 v6 0 (([] : List Int).map (Value.int .u8)) := by simpa using hown61
  have hb61 : Below W3.heap.size W5 w6 := (Below.refl _ _).grown hgr61 (by omega) (fun k hk => (hr1.lt k hk).1)
  have z61 := hb61.size
  have HB61 := hid (HB51.out.trans (hb61.mono (by have := HB4.out.size; omega)))
  have Hq61 := hid (Hq51.out.trans (hb61.mono (by have := Hq4.out.size; omega)))
  have HD61 := hid hd61
  clear hown61 hgr61 hb61 HC1 hr1 hW5 HB51 Hq51 hd61
  go_wp2_with fail
  refine (implUv V _ hV).mono ?_
  rintro e w7 ⟨v7, rfl, o71, b71, z71⟩
  have hby71 : ∀ z ∈ uvF 9 V, 0 ≤ z ∧ z < 256 := HUB1.out
  obtain ⟨g71, cap71, e71, _, hg71, hcs71⟩ := Bys.cells ⟨o71, hby71⟩ HUN1.out
  subst e71
  have hd71 : w7.ownsRow W3.heap.size 5 1 v6 0 (([] : List Int).map (Value.int .u8)) := owns_kept HD61.out b71
  have HB71 := hid (keepS HB61.out b71)
  have Hq71 := hid (Hq61.out.trans (b71.mono Hq61.out.size))
  have zz71 := b71.size
  have HC71 := hid hcs71
  clear o71 b71 hcs71 HB61 Hq61 HD61 hby71
  obtain ⟨Lu1, hLu1⟩ : ∃ Lu, (uvF 9 V).length = Lu := ⟨_, rfl⟩
  have HLu1 := hid hLu1
  have hub1 : Lu1 ≤ 1100 := by rw [← hLu1]; exact HUL1.out
  have hup1 : 0 < Lu1 := by
    rcases Nat.eq_zero_or_pos Lu1 with h0 | h0
    · rw [h0] at hLu1; exact absurd (List.length_eq_zero_iff.1 hLu1) HUN1.out
    · exact h0
  rw [hLu1]
  clear hLu1
  go_wp2_with (at_builtin; refine wpList_append_own _ rfl _ _ 22 rfl W3.heap.size 5 i0 (.int .u8 0) 1 1 Tryd.underlying22 hi hz0 hz1 hz2 rfl (by decide) _ _ _ rfl hd71 ⟨g71, 0, none⟩ Lu1 cap71 ((uvF 9 V).map (Value.int .u8)) rfl (by have := HLu1.out; simp <;> omega) HC71.out (one_map _) ?r13 ?r14 ?r15 ?_)
  case r13 => first | (unfold maxLen; omega) | omega
  case r14 => omega
  case r15 => first | omega | (simp; omega)

  intro v8 w8 hown81 hgr81 _
  have hb81 : Below W3.heap.size w7 w8 := (Below.refl _ _).grown hgr81 (by omega) (fun k hk => (hd71.lt k hk).1)
  have R81 : Bys w8 W3.heap.size v8 (([] : List Int) ++ (uvF 9 V)) := bys_app hhb.out HUB1.out (by rw [HLh.out, HLu1.out]; first | exact hown81 | simpa using hown81)
  have zz81 := hb81.size
  have HB81 := hid (HB71.out.trans (hb81.mono (by have := HB4.out.size; omega)))
  have Hq81 := hid (Hq71.out.trans (hb81.mono (by have := Hq4.out.size; omega)))
  obtain ⟨a81, c81, e81, hnc81, sg81, hlt81⟩ := Bys.seg R81
  subst e81
  obtain ⟨N1, hN1⟩ : ∃ N, (([] : List Int) ++ (uvF 9 V)).length = N := ⟨_, rfl⟩
  have HN1 : Hid (N1 = 0 + Lu1) := by show _ = _; rw [← hN1, List.length_append, HLh.out, HLu1.out]
  have hNb1 : N1 ≤ 1300 := by have := HN1.out; omega
  have HF81 := hid (bytesOf R81.2)
  rw [hN1] at hnc81 sg81 ⊢
  have HS81 := hid sg81
  have HT81 := hid hlt81
  clear hown81 hgr81 hb81 hd71 HB71 Hq71 HC71 R81 sg81 hlt81 hN1 HB4 Hq4

  obtain ⟨m1, hm1⟩ := cnt_ex (fun i => (([] : List Int) ++ uvF 9 V).getD i 0) N1 0
  have hat1 : At (fun i => (([] : List Int) ++ uvF 9 V).getD i 0) 0 (uvF 9 V) := by have := at_app ([] : List Int) (uvF 9 V) []; rw [List.append_nil, HLh.out] at this; exact this
  have hg1 : gX (fun i => (([] : List Int) ++ uvF 9 V).getD i 0) N1 m1 (0 : Int) = (V, ((0 + (uvF 9 V).length : Nat) : Int), 0) := gX_put (p := 0) hV hat1 (by rw [HLu1.out, HN1.out] <;> omega) hm1
  have HX1 := hid (implX w.heap.size a81 N1 c81 m1 (0 : Int) (fun i => (([] : List Int) ++ uvF 9 V).getD i 0) aT aS aL aE w8 (by omega) HF81.out HS81.out (by simpa using hm1) (HE.out.below HB81.out) HB81.out.size)
  rw [HLu1.out] at hg1
  rw [hg1] at HX1
  clear hat1 hm1 hg1
  go_wp2_with fail
  refine HX1.out.mono ?_
  rintro e w9 ⟨rfl, b9⟩
  have z9 := b9.size
  have HB9 := hid (keepS HB81.out b9)
  have Hq9 := hid (Hq81.out.trans (b9.mono Hq81.out.size))
  have hN1e : (0 : Nat) + Lu1 = N1 := HN1.out.symm
  clear b9 HX1 HB81 Hq81 HS81 HT81 HF81

  have ho52 := rowE w9 w9.heap.size (Nat.le_refl _)
  have hb52 : Below w9.heap.size w9 (w9.alloc (.cells #[] 5)) := (Below.refl _ _).alloc (Nat.le_refl _) _
  obtain ⟨Wa, hWa⟩ : ∃ Wa, w9.alloc (.cells #[] 5) = Wa := ⟨_, rfl⟩
  have zWa : Wa.heap.size = w9.heap.size + 1 := by rw [← hWa]; simp
  rw [hWa] at ho52 hb52
  have hr2 : Wa.ownsRow w9.heap.size 5 1 (.slice (some ⟨w9.heap.size, 0, none⟩) 0 0) 0 [] := ho52
  have HB52 := hid (keepS HB9.out hb52)
  have Hq52 := hid (Hq9.out.trans (hb52.mono Hq9.out.size))
  have HC2 : Hid (∀ j u, (([] : List Int).map (Value.int .u8))[j]? = some u → Wa.cell? ((⟨w2.heap.size, 0, none⟩ : Addr).add j) = some u) := fun j u hj => by
    rw [Hq52.out.cell (p := (⟨w2.heap.size, 0, none⟩ : Addr).add j) (by rw [add_block]; exact hghl)]; exact HCSH.out j u hj
  clear ho52 hb52
  go_wp2_with (at_builtin; refine wpList_append_own _ rfl _ _ 22 rfl w9.heap.size 5 i0 (.int .u8 0) 1 1 Tryd.underlying22 hi hz0 hz1 hz2 rfl (by decide) _ _ _ rfl hr2 ⟨w2.heap.size, 0, none⟩ 0 0 (([] : List Int).map (Value.int .u8)) rfl (by have := HLh.out; simp <;> omega) HC2.out (one_map ([] : List Int)) ?p23 ?p24 ?p25 ?_)
  case p23 => first | (unfold maxLen; omega) | omega
  case p24 => omega
  case p25 => first | omega | (simp; omega)

  intro va wa hown62 hgr62 _
  have hd62 : wa.ownsRow w9.heap.size 5 1 va 0 (([] : List Int).map (Value.int .u8)) := by simpa using hown62
  have hb62 : Below w9.heap.size Wa wa := (Below.refl _ _).grown hgr62 (by omega) (fun k hk => (hr2.lt k hk).1)
  have z62 := hb62.size
  have HB62 := hid (HB52.out.trans (hb62.mono (by have := HB9.out.size; omega)))
  have Hq62 := hid (Hq52.out.trans (hb62.mono (by have := Hq9.out.size; omega)))
  have HD62 := hid hd62
  clear hown62 hgr62 hb62 HC2 hr2 hWa HB52 Hq52 hd62
  go_wp2_with fail
  refine (implText s _ (by omega)).mono ?_
  rintro e wb ⟨vb, rfl, o72, b72, z72⟩
  have hby72 : ∀ z ∈ textInts s, 0 ≤ z ∧ z < 256 := HUB2.out
  obtain ⟨g72, cap72, e72, _, hg72, hcs72⟩ := Bys.cells ⟨o72, hby72⟩ HUN2.out
  subst e72
  have hd72 : wb.ownsRow w9.heap.size 5 1 va 0 (([] : List Int).map (Value.int .u8)) := owns_kept HD62.out b72
  have HB72 := hid (keepS HB62.out b72)
  have Hq72 := hid (Hq62.out.trans (b72.mono Hq62.out.size))
  have zz72 := b72.size
  have HC72 := hid hcs72
  clear o72 b72 hcs72 HB62 Hq62 HD62 hby72
  obtain ⟨Lu2, hLu2⟩ : ∃ Lu, (textInts s).length = Lu := ⟨_, rfl⟩
  have HLu2 := hid hLu2
  have hub2 : Lu2 ≤ 1100 := by rw [← hLu2]; exact HUL2.out
  have hup2 : 0 < Lu2 := by
    rcases Nat.eq_zero_or_pos Lu2 with h0 | h0
    · rw [h0] at hLu2; exact absurd (List.length_eq_zero_iff.1 hLu2) HUN2.out
    · exact h0
  rw [hLu2]
  clear hLu2
  go_wp2_with (at_builtin; refine wpList_append_own _ rfl _ _ 22 rfl w9.heap.size 5 i0 (.int .u8 0) 1 1 Tryd.underlying22 hi hz0 hz1 hz2 rfl (by decide) _ _ _ rfl hd72 ⟨g72, 0, none⟩ Lu2 cap72 ((textInts s).map (Value.int .u8)) rfl (by have := HLu2.out; simp <;> omega) HC72.out (one_map _) ?r23 ?r24 ?r25 ?_)
  case r23 => first | (unfold maxLen; omega) | omega
  case r24 => omega
  case r25 => first | omega | (simp; omega)

  intro vc wc hown82 hgr82 _
  have hb82 : Below w9.heap.size wb wc := (Below.refl _ _).grown hgr82 (by omega) (fun k hk => (hd72.lt k hk).1)
  have R82 : Bys wc w9.heap.size vc (([] : List Int) ++ (textInts s)) := bys_app hhb.out HUB2.out (by rw [HLh.out, HLu2.out]; first | exact hown82 | simpa using hown82)
  have zz82 := hb82.size
  have HB82 := hid (HB72.out.trans (hb82.mono (by have := HB9.out.size; omega)))
  have Hq82 := hid (Hq72.out.trans (hb82.mono (by have := Hq9.out.size; omega)))
  obtain ⟨a82, c82, e82, hnc82, sg82, hlt82⟩ := Bys.seg R82
  subst e82
  obtain ⟨N2, hN2⟩ : ∃ N, (([] : List Int) ++ (textInts s)).length = N := ⟨_, rfl⟩
  have HN2 : Hid (N2 = 0 + Lu2) := by show _ = _; rw [← hN2, List.length_append, HLh.out, HLu2.out]
  have hNb2 : N2 ≤ 1300 := by have := HN2.out; omega
  have HF82 := hid (bytesOf R82.2)
  rw [hN2] at hnc82 sg82 ⊢
  have HS82 := hid sg82
  have HT82 := hid hlt82
  clear hown82 hgr82 hb82 hd72 HB72 Hq72 HC72 R82 sg82 hlt82 hN2 HB9 Hq9

  obtain ⟨m2, hm2⟩ := cnt_ex (fun i => (([] : List Int) ++ textInts s).getD i 0) N2 0
  have hat2 : At (fun i => (([] : List Int) ++ textInts s).getD i 0) 0 (uvF 9 s.size) := by have := at_app ([] : List Int) (uvF 9 s.size) (strInts s); rw [List.append_assoc, HLh.out] at this; exact this
  have hul2 := uvF_len 9 s.size
  have hLt : Lu2 = (uvF 9 s.size).length + s.size := by rw [← HLu2.out, textInts, List.length_append, strInts_length]
  have hg2 := gX_put (p := 0) (V := s.size) (by omega) hat2 (by rw [HN2.out]; omega) hm2
  have hst : strF (fun i => (([] : List Int) ++ textInts s).getD i 0) (0 + (uvF 9 s.size).length) s.size = s := by
    have := str_reads (([] : List Int) ++ uvF 9 s.size) (strInts s) s rfl
    rw [List.append_assoc, List.length_append, HLh.out] at this
    exact this
  have hok2 : gtX (fun i => (([] : List Int) ++ textInts s).getD i 0) N2 m2 (0 : Int) (s.size : Int) = (s, ((0 + (uvF 9 s.size).length + s.size : Nat) : Int), 0) := gtX_ok (p := 0) hg2 (by rw [HN2.out]; omega) hst
  have hlo2 : gtX (fun i => (([] : List Int) ++ textInts s).getD i 0) N2 m2 (0 : Int) ((s.size : Int) - 1) = (⟨#[]⟩, (0 : Int), 4) := gtX_long (p := 0) hg2
  have hE2 : 0 + (uvF 9 s.size).length + s.size = N2 := by rw [HN2.out]; omega
  rw [hE2] at hok2
  have HT1 := hid (implT w.heap.size a82 N2 c82 m2 (0 : Int) (s.size : Int) (fun i => (([] : List Int) ++ textInts s).getD i 0) aT aS aL aE wc (by omega) hnc82 HF82.out HS82.out HT82.out (by simpa using hm2) (HE.out.below HB82.out) HB82.out.size (Go.WalkArith.wf_i64 (by omega)) (Go.WalkArith.wf_i64 (by omega)))
  rw [hok2] at HT1
  have HT2 : Hid (∀ w', Below wc.heap.size wc w' → Calls Tryd.prog 10 #[.slice a82 N2 c82, .int .i64 (0 : Int), .int .i64 ((s.size : Int) - 1)] w' fun e w'' => e = .returned (.tuple #[.string ⟨#[]⟩, .int .i64 (0 : Int), .int .i64 4]) ∧ Below w'.heap.size w' w'') := fun w' hb => by
    have := implT w.heap.size a82 N2 c82 m2 (0 : Int) ((s.size : Int) - 1) (fun i => (([] : List Int) ++ textInts s).getD i 0) aT aS aL aE w' (by omega) hnc82 HF82.out (HS82.out.below hb) (fun y hy => Nat.lt_of_lt_of_le (HT82.out y hy) hb.size) (by simpa using hm2) (HE.out.below (keepS HB82.out hb)) (Nat.le_trans HB82.out.size hb.size) (Go.WalkArith.wf_i64 (by omega)) (Go.WalkArith.wf_i64 (by omega))
    rw [hlo2] at this
    exact this
  clear hat2 hm2 hg2 hst hok2 hlo2 hE2 hLt hul2
  go_wp2_with fail
  refine HT1.out.mono ?_
  rintro e wd ⟨rfl, bd⟩
  have zd := bd.size
  have HBd := hid (keepS HB82.out bd)
  have Hbd := hid bd
  clear bd HT1
  go_wp2_with fail
  refine (HT2.out wd Hbd.out).mono ?_
  rintro e we ⟨rfl, be⟩
  have HBe := hid (keepS HBd.out be)
  clear be HT2 HBd Hbd HB82 Hq82 HS82 HT82 HF82
  go_wp2_with fail
  refine (rdGet a' n' c' f' _ hnc' hn' (HH'.out.below HBe.out) HF'.out).mono ?_
  rintro e wf ⟨vr, zs, x, rfl, hzl, hx0, hx1, byr, bf⟩
  have HBf := hid (keepS HBe.out bf)
  obtain ⟨ar, cr, er, hncr, sgr, hltr⟩ := Bys.seg byr
  subst er
  have HFr := hid (bytesOf byr.2)
  have HSr := hid sgr
  obtain ⟨Nr, hNr⟩ : ∃ Nr, zs.length = Nr := ⟨_, rfl⟩
  rw [hNr] at hzl hncr HSr ⊢
  clear bf byr sgr HBe hNr hltr
  obtain ⟨fr, hfr⟩ : ∃ fr : Nat → Int, (fun i => zs.getD i 0) = fr := ⟨_, rfl⟩
  rw [hfr] at HFr HSr
  clear hfr
  obtain ⟨mr, hmr⟩ := cnt_ex fr Nr x.toNat
  have HMr := hid hmr
  have HZ := hid (fun h => gX_zero HFr.out hmr h)
  have HBD := hid (gX_bounds hmr HFr.out (by omega) (by omega) (by omega : x ≤ 9223372036854775807))
  have HP1 := hid (specX ar Nr cr mr x fr wf (by omega) HFr.out HSr.out hmr)
  have HP2 : Hid (∀ w', Below wf.heap.size wf w' → Calls Tryd.prog 8 #[.slice ar Nr cr, .int .i64 x] w' fun e w'' => e = .returned (.tuple #[.int .u64 ((gX fr Nr mr x).1 : Int), .int .i64 (gX fr Nr mr x).2.1, .int .i64 ((gX fr Nr mr x).2.2 : Int)]) ∧ Below w'.heap.size w' w'') := fun w' hb =>
    implX w.heap.size ar Nr cr mr x fr aT aS aL aE w' (by omega) HFr.out (HSr.out.below hb) hmr (HE.out.below (keepS HBf.out hb)) (Nat.le_trans HBf.out.size hb.size)
  clear hmr
  obtain ⟨Vr, hVr⟩ : ∃ Vr, (gX fr Nr mr x).1 = Vr := ⟨_, rfl⟩
  obtain ⟨Ar, hAr⟩ : ∃ Ar, (gX fr Nr mr x).2.1 = Ar := ⟨_, rfl⟩
  obtain ⟨Cr, hCr⟩ : ∃ Cr, (gX fr Nr mr x).2.2 = Cr := ⟨_, rfl⟩
  rw [hVr, hAr, hCr] at HP1 HP2 HZ HBD
  clear hVr hAr hCr
  go_wp2_with fail
  refine HP1.out.mono ?_
  rintro e wg ⟨rfl, bg⟩
  have Hbg := hid bg
  clear bg HP1
  go_wp2_with fail
  refine (HP2.out wg Hbg.out).mono ?_
  rintro e wh ⟨rfl, bh⟩
  have Hbh := hid (keepS Hbg.out bh)
  have HBh := hid (keepS HBf.out Hbh.out)
  clear bh HP2 Hbg
  by_cases hc0 : Cr = 0
  focus
    subst hc0
    obtain ⟨px, hpx, hpn, hV64, hA, hU⟩ := HZ.out rfl
    subst hpx
    obtain ⟨E2, hE2⟩ : ∃ E2 : Nat, E2 = px + mr + 1 := ⟨_, rfl⟩
    rw [← hE2] at hA hpn
    subst hA
    have HE2 := hid hE2
    have HSh := hid (HSr.out.below Hbh.out)
    have hul := uvF_len 9 Vr
    rcases HSh.out with h0 | ⟨br, offr, er, hbr, hcr⟩
    · omega
    subst er
    have HU := hid hU
    have hstr : ∀ w', Below wh.heap.size wh w' → ∀ cap, (convert 22 9 (.slice (some ⟨br, offr + px, none⟩) (E2 - px) cap)).run Tryd.prog w' = .ok (.string (bytesStr (uvF 9 Vr))) w' := fun w' hb cap => by
      have e : E2 - px = mr + 1 := by have := HE2.out; omega
      rw [e]
      have := strF_conv (w := w') (b := br) (off := offr) (p := px) (L := mr + 1) (cap := cap) HFr.out (fun i hi => by rw [hb.cell (p := ⟨br, offr + px + i, none⟩) hbr, Nat.add_assoc]; exact hcr (px + i) (by have := HE2.out; omega))
      rw [strF_bytes, ← HU.out] at this
      exact this
    have HSTR := hid hstr
    have hs0 := hstr wh (Below.refl _ _)
    have hNU : uvF 9 Vr ≠ [] := fun e => by rw [e] at hul; simp at hul
    have hBU := uvF_byte 9 Vr (by omega)
    have hpE : px ≤ E2 := by omega
    have hEc : E2 ≤ cr := by omega
    have hcpx : ¬ cr = px := by omega
    have hi1 : (0 : Int) ≤ (px : Int) := Int.natCast_nonneg _
    have hi2 : (px : Int) ≤ (E2 : Int) := by omega
    have hi3 : (E2 : Int) ≤ (cr : Int) := by omega
    obtain ⟨TT, hTT⟩ : ∃ TT, bytesStr (uvF 9 Vr) = TT := ⟨_, rfl⟩
    rw [hTT] at HSTR hs0
    have HTT := hid hTT
    have HNU := hid hNU
    have HBU := hid hBU
    clear hE2 hcr hU HU hstr hTT hNU hBU HSh HZ HBD
    go_wp2_with fail
    refine wp_region_held_drew (S := fun w' => Below wh.heap.size wh w' ∧ ∀ cap, (convert 22 9 (.slice (some ⟨br, offr + px, none⟩) (E2 - px) cap)).run Tryd.prog w' = .ok (.string TT) w') (by kernel_rfl) ⟨(Below.refl _ _).drew, HSTR.out _ (Below.refl _ _).drew⟩ (fun hHeld => ?_)
    refine take1 (i := 0) (d := some 155) (v := ?_) (by kernel_rfl) (by kernel_rfl) (by kernel_rfl) (by kernel_rfl) (fun _ _ _ h => h) ?_ hHeld ?_
    rotate_left
    · (intro o ho; simp only [List.getElem?_toArray, List.getElem?_cons_succ, List.getElem?_cons_zero, Option.some.injEq] at ho; subst ho; refine Or.inl ⟨by rfl, ?_⟩; intro w hSw; (try dsimp only at hSw); go_simp; try with_reducible rfl)
    try simp only [Act.put, List.setIfInBounds_toArray, List.set_cons_zero, List.set_cons_succ]
    refine take1 (i := 1) (d := some 156) (v := ?_) (by kernel_rfl) (by kernel_rfl) (by kernel_rfl) (by kernel_rfl) (fun _ _ _ h => h) ?_ hHeld ?_
    rotate_left
    · (intro o ho; simp only [List.getElem?_toArray, List.getElem?_cons_succ, List.getElem?_cons_zero, Option.some.injEq] at ho; subst ho; refine Or.inl ⟨by rfl, ?_⟩; intro w hSw; (try dsimp only at hSw); go_simp; try with_reducible rfl)
    try simp only [Act.put, List.setIfInBounds_toArray, List.set_cons_zero, List.set_cons_succ]
    refine take1 (i := 2) (d := some 157) (v := ?_) (by kernel_rfl) (by kernel_rfl) (by kernel_rfl) (by kernel_rfl) (fun _ _ _ h => h) ?_ hHeld ?_
    rotate_left
    · (intro o ho; simp only [List.getElem?_toArray, List.getElem?_cons_succ, List.getElem?_cons_zero, Option.some.injEq] at ho; subst ho; refine Or.inl ⟨by rfl, ?_⟩; intro w hSw; (try dsimp only at hSw); go_simp; try with_reducible rfl)
    try simp only [Act.put, List.setIfInBounds_toArray, List.set_cons_zero, List.set_cons_succ]
    refine take1 (i := 3) (d := some 158) (v := ?_) (by kernel_rfl) (by kernel_rfl) (by kernel_rfl) (by kernel_rfl) (fun _ _ _ h => h) ?_ hHeld ?_
    rotate_left
    · (intro o ho; simp only [List.getElem?_toArray, List.getElem?_cons_succ, List.getElem?_cons_zero, Option.some.injEq] at ho; subst ho; refine Or.inl ⟨by rfl, ?_⟩; intro w hSw; (try dsimp only at hSw); go_simp; try with_reducible rfl)
    try simp only [Act.put, List.setIfInBounds_toArray, List.set_cons_zero, List.set_cons_succ]
    refine take1 (i := 6) (d := some 161) (v := ?_) (by kernel_rfl) (by kernel_rfl) (by kernel_rfl) (by kernel_rfl) (fun _ _ _ h => h) ?_ hHeld ?_
    rotate_left
    · (intro o ho; simp only [List.getElem?_toArray, List.getElem?_cons_succ, List.getElem?_cons_zero, Option.some.injEq] at ho; subst ho; refine Or.inl ⟨by rfl, ?_⟩; intro w hSw; (try dsimp only at hSw); go_simp; try with_reducible rfl)
    try simp only [Act.put, List.setIfInBounds_toArray, List.set_cons_zero, List.set_cons_succ]
    refine take1 (i := 7) (d := some 162) (v := ?_) (by kernel_rfl) (by kernel_rfl) (by kernel_rfl) (by kernel_rfl) (fun _ _ _ h => h) ?_ hHeld ?_
    rotate_left
    · (intro o ho; simp only [List.getElem?_toArray, List.getElem?_cons_succ, List.getElem?_cons_zero, Option.some.injEq] at ho; subst ho; refine Or.inl ⟨by rfl, ?_⟩; intro w hSw; (try dsimp only at hSw); go_simp; try with_reducible rfl)
    try simp only [Act.put, List.setIfInBounds_toArray, List.set_cons_zero, List.set_cons_succ]
    refine take1 (i := 8) (d := some 163) (v := ?_) (by kernel_rfl) (by kernel_rfl) (by kernel_rfl) (by kernel_rfl) (fun _ _ _ h => h) ?_ hHeld ?_
    rotate_left
    · (intro o ho; simp only [List.getElem?_toArray, List.getElem?_cons_succ, List.getElem?_cons_zero, Option.some.injEq] at ho; subst ho; refine Or.inl ⟨by rfl, ?_⟩; intro w hSw; (try dsimp only at hSw); go_simp; try with_reducible rfl)
    try simp only [Act.put, List.setIfInBounds_toArray, List.set_cons_zero, List.set_cons_succ]
    refine take1 (i := 9) (d := some 164) (v := ?_) (by kernel_rfl) (by kernel_rfl) (by kernel_rfl) (by kernel_rfl) (fun _ _ _ h => h) ?_ hHeld ?_
    rotate_left
    · (intro o ho; simp only [List.getElem?_toArray, List.getElem?_cons_succ, List.getElem?_cons_zero, Option.some.injEq] at ho; subst ho; refine Or.inl ⟨by rfl, ?_⟩; intro w hSw; (try dsimp only at hSw); go_simp; try with_reducible rfl)
    try simp only [Act.put, List.setIfInBounds_toArray, List.set_cons_zero, List.set_cons_succ]
    refine take1 (i := 10) (d := some 165) (v := ?_) (by kernel_rfl) (by kernel_rfl) (by kernel_rfl) (by kernel_rfl) (fun _ _ _ h => h) ?_ hHeld ?_
    rotate_left
    · (intro o ho; simp only [List.getElem?_toArray, List.getElem?_cons_succ, List.getElem?_cons_zero, Option.some.injEq] at ho; subst ho; refine Or.inl ⟨by rfl, ?_⟩; intro w hSw; (try dsimp only at hSw); go_simp; try with_reducible rfl)
    try simp only [Act.put, List.setIfInBounds_toArray, List.set_cons_zero, List.set_cons_succ]
    refine call1 (i := 4) (d := some 159) (by kernel_rfl) (by kernel_rfl) ?_
    intro o ho hod K hK; simp only [List.getElem?_toArray, List.getElem?_cons_succ, List.getElem?_cons_zero, Option.some.injEq] at ho; subst ho
    go_simp
    refine (implUv Vr _ hV64).mono ?_
    rintro e wi ⟨vi, rfl, oi, bi, zi⟩
    have hBi := keepS hHeld.1 bi
    have hcvi := strBys ⟨oi, HBU.out⟩ HNU.out
    rw [HTT.out] at hcvi
    refine hK.out _ _ ⟨hBi, HSTR.out _ hBi⟩ (fun hHeld => ?_)
    clear hK K
    try simp only [Act.put, List.setIfInBounds_toArray, List.set_cons_zero, List.set_cons_succ]
    refine call1 (i := 5) (d := some 160) (by kernel_rfl) (by kernel_rfl) ?_
    intro o ho hod K hK; simp only [List.getElem?_toArray, List.getElem?_cons_succ, List.getElem?_cons_zero, Option.some.injEq] at ho; subst ho
    go_simp
    refine hK.out _ _ ⟨hBi, HSTR.out _ hBi⟩ (fun hHeld => ?_)
    clear hK K
    try simp only [Act.put, List.setIfInBounds_toArray, List.set_cons_zero, List.set_cons_succ]
    refine take1 (i := 11) (d := some 166) (v := ?_) (by kernel_rfl) (by kernel_rfl) (by kernel_rfl) (by kernel_rfl) (fun _ _ _ h => h) ?_ hHeld ?_
    rotate_left
    · (intro o ho; simp only [List.getElem?_toArray, List.getElem?_cons_succ, List.getElem?_cons_zero, Option.some.injEq] at ho; subst ho; refine Or.inl ⟨by rfl, ?_⟩; intro w hSw; (try dsimp only at hSw); go_simp; try with_reducible rfl)
    try simp only [Act.put, List.setIfInBounds_toArray, List.set_cons_zero, List.set_cons_succ]
    refine take1 (i := 12) (d := some 167) (v := ?_) (by kernel_rfl) (by kernel_rfl) (by kernel_rfl) (by kernel_rfl) (fun _ _ _ h => h) ?_ hHeld ?_
    rotate_left
    · (intro o ho; simp only [List.getElem?_toArray, List.getElem?_cons_succ, List.getElem?_cons_zero, Option.some.injEq] at ho; subst ho; refine Or.inl ⟨by rfl, ?_⟩; intro w hSw; (try dsimp only at hSw); go_simp; try with_reducible rfl)
    try simp only [Act.put, List.setIfInBounds_toArray, List.set_cons_zero, List.set_cons_succ]
    refine take1 (i := 13) (d := some 4) (v := ?_) (by kernel_rfl) (by kernel_rfl) (by kernel_rfl) (by kernel_rfl) (fun _ _ _ h => h) ?_ hHeld ?_
    rotate_left
    · (intro o ho; simp only [List.getElem?_toArray, List.getElem?_cons_succ, List.getElem?_cons_zero, Option.some.injEq] at ho; subst ho; refine Or.inl ⟨by rfl, ?_⟩; intro w hSw; (try dsimp only at hSw); go_simp; try with_reducible rfl)
    try simp only [Act.put, List.setIfInBounds_toArray, List.set_cons_zero, List.set_cons_succ]
    refine wpAnyH_done (by kernel_rfl) ?_ _
    have HFIN := hid (keepS HBh.out hBi)
    clear hHeld hBi hcvi oi bi
    go_wp2_with fail
    go_ret
    exact ⟨rfl, HFIN.out⟩
  have hcn : ¬ (Cr : Int) = 0 := by omega
  have hcb : ((Cr : Int) == 0) = false := by simpa using hcn
  have hcp : 0 < Cr := by omega
  have hcb2 : ((Cr : Int) != 0) = true := by simp; omega
  have hcb3 : (Cr == 0) = false := by simp; omega
  have hcb4 : (Cr != 0) = true := by simp; omega
  have hcb5 : decide (Cr = 0) = false := by simp; omega
  have hcb6 : decide ((Cr : Int) = 0) = false := by simp; omega
  have hcb7 : ¬ Cr = 0 := hc0
  clear HZ HBD
  go_wp2_with fail
  refine wp_region_held_drew (S := fun w' => Below wh.heap.size wh w') (by kernel_rfl) (Below.refl _ _).drew (fun hHeld => ?_)
  refine take1 (i := 0) (d := some 155) (v := ?_) (by kernel_rfl) (by kernel_rfl) (by kernel_rfl) (by kernel_rfl) (fun _ _ _ h => h) ?_ hHeld ?_
  rotate_left
  · (intro o ho; simp only [List.getElem?_toArray, List.getElem?_cons_succ, List.getElem?_cons_zero, Option.some.injEq] at ho; subst ho; refine Or.inl ⟨by rfl, ?_⟩; intro w hSw; (try dsimp only at hSw); go_simp; try with_reducible rfl)
  try simp only [Act.put, List.setIfInBounds_toArray, List.set_cons_zero, List.set_cons_succ]
  refine take1 (i := 1) (d := some 156) (v := ?_) (by kernel_rfl) (by kernel_rfl) (by kernel_rfl) (by kernel_rfl) (fun _ _ _ h => h) ?_ hHeld ?_
  rotate_left
  · (intro o ho; simp only [List.getElem?_toArray, List.getElem?_cons_succ, List.getElem?_cons_zero, Option.some.injEq] at ho; subst ho; refine Or.inl ⟨by rfl, ?_⟩; intro w hSw; (try dsimp only at hSw); go_simp; try with_reducible rfl)
  try simp only [Act.put, List.setIfInBounds_toArray, List.set_cons_zero, List.set_cons_succ]
  refine take1 (i := 2) (d := some 157) (v := ?_) (by kernel_rfl) (by kernel_rfl) (by kernel_rfl) (by kernel_rfl) (fun _ _ _ h => h) ?_ hHeld ?_
  rotate_left
  · (intro o ho; simp only [List.getElem?_toArray, List.getElem?_cons_succ, List.getElem?_cons_zero, Option.some.injEq] at ho; subst ho; refine Or.inl ⟨by rfl, ?_⟩; intro w hSw; (try dsimp only at hSw); go_simp; try with_reducible rfl)
  try simp only [Act.put, List.setIfInBounds_toArray, List.set_cons_zero, List.set_cons_succ]
  try simp only [hcb, hcb2, hcb3, hcb4, hcb5, hcb6, Bool.not_false, Bool.not_true]
  refine take1 (i := 3) (d := some 158) (v := undef) (by kernel_rfl) (by kernel_rfl) (by kernel_rfl) (by kernel_rfl) (fun _ _ _ h => h) ?_ hHeld ?_
  · (intro o ho; simp only [List.getElem?_toArray, List.getElem?_cons_succ, List.getElem?_cons_zero, Option.some.injEq] at ho; subst ho; exact Or.inr ⟨by rfl, rfl⟩)
  try simp only [Act.put, List.setIfInBounds_toArray, List.set_cons_zero, List.set_cons_succ]
  refine take1 (i := 4) (d := some 159) (v := undef) (by kernel_rfl) (by kernel_rfl) (by kernel_rfl) (by kernel_rfl) (fun _ _ _ h => h) ?_ hHeld ?_
  · (intro o ho; simp only [List.getElem?_toArray, List.getElem?_cons_succ, List.getElem?_cons_zero, Option.some.injEq] at ho; subst ho; exact Or.inr ⟨by rfl, rfl⟩)
  try simp only [Act.put, List.setIfInBounds_toArray, List.set_cons_zero, List.set_cons_succ]
  refine take1 (i := 5) (d := some 160) (v := undef) (by kernel_rfl) (by kernel_rfl) (by kernel_rfl) (by kernel_rfl) (fun _ _ _ h => h) ?_ hHeld ?_
  · (intro o ho; simp only [List.getElem?_toArray, List.getElem?_cons_succ, List.getElem?_cons_zero, Option.some.injEq] at ho; subst ho; exact Or.inr ⟨by rfl, rfl⟩)
  try simp only [Act.put, List.setIfInBounds_toArray, List.set_cons_zero, List.set_cons_succ]
  refine take1 (i := 6) (d := some 161) (v := undef) (by kernel_rfl) (by kernel_rfl) (by kernel_rfl) (by kernel_rfl) (fun _ _ _ h => h) ?_ hHeld ?_
  · (intro o ho; simp only [List.getElem?_toArray, List.getElem?_cons_succ, List.getElem?_cons_zero, Option.some.injEq] at ho; subst ho; exact Or.inr ⟨by rfl, rfl⟩)
  try simp only [Act.put, List.setIfInBounds_toArray, List.set_cons_zero, List.set_cons_succ]
  refine take1 (i := 7) (d := some 162) (v := undef) (by kernel_rfl) (by kernel_rfl) (by kernel_rfl) (by kernel_rfl) (fun _ _ _ h => h) ?_ hHeld ?_
  · (intro o ho; simp only [List.getElem?_toArray, List.getElem?_cons_succ, List.getElem?_cons_zero, Option.some.injEq] at ho; subst ho; exact Or.inr ⟨by rfl, rfl⟩)
  try simp only [Act.put, List.setIfInBounds_toArray, List.set_cons_zero, List.set_cons_succ]
  refine take1 (i := 8) (d := some 163) (v := undef) (by kernel_rfl) (by kernel_rfl) (by kernel_rfl) (by kernel_rfl) (fun _ _ _ h => h) ?_ hHeld ?_
  · (intro o ho; simp only [List.getElem?_toArray, List.getElem?_cons_succ, List.getElem?_cons_zero, Option.some.injEq] at ho; subst ho; exact Or.inr ⟨by rfl, rfl⟩)
  try simp only [Act.put, List.setIfInBounds_toArray, List.set_cons_zero, List.set_cons_succ]
  refine take1 (i := 9) (d := some 164) (v := undef) (by kernel_rfl) (by kernel_rfl) (by kernel_rfl) (by kernel_rfl) (fun _ _ _ h => h) ?_ hHeld ?_
  · (intro o ho; simp only [List.getElem?_toArray, List.getElem?_cons_succ, List.getElem?_cons_zero, Option.some.injEq] at ho; subst ho; exact Or.inr ⟨by rfl, rfl⟩)
  try simp only [Act.put, List.setIfInBounds_toArray, List.set_cons_zero, List.set_cons_succ]
  refine take1 (i := 10) (d := some 165) (v := undef) (by kernel_rfl) (by kernel_rfl) (by kernel_rfl) (by kernel_rfl) (fun _ _ _ h => h) ?_ hHeld ?_
  · (intro o ho; simp only [List.getElem?_toArray, List.getElem?_cons_succ, List.getElem?_cons_zero, Option.some.injEq] at ho; subst ho; exact Or.inr ⟨by rfl, rfl⟩)
  try simp only [Act.put, List.setIfInBounds_toArray, List.set_cons_zero, List.set_cons_succ]
  refine take1 (i := 11) (d := some 166) (v := undef) (by kernel_rfl) (by kernel_rfl) (by kernel_rfl) (by kernel_rfl) (fun _ _ _ h => h) ?_ hHeld ?_
  · (intro o ho; simp only [List.getElem?_toArray, List.getElem?_cons_succ, List.getElem?_cons_zero, Option.some.injEq] at ho; subst ho; exact Or.inr ⟨by rfl, rfl⟩)
  try simp only [Act.put, List.setIfInBounds_toArray, List.set_cons_zero, List.set_cons_succ]
  refine take1 (i := 12) (d := some 167) (v := ?_) (by kernel_rfl) (by kernel_rfl) (by kernel_rfl) (by kernel_rfl) (fun _ _ _ h => h) ?_ hHeld ?_
  rotate_left
  · (intro o ho; simp only [List.getElem?_toArray, List.getElem?_cons_succ, List.getElem?_cons_zero, Option.some.injEq] at ho; subst ho; refine Or.inl ⟨by rfl, ?_⟩; intro w hSw; (try dsimp only at hSw); go_simp; try with_reducible rfl)
  try simp only [Act.put, List.setIfInBounds_toArray, List.set_cons_zero, List.set_cons_succ]
  refine take1 (i := 13) (d := some 4) (v := ?_) (by kernel_rfl) (by kernel_rfl) (by kernel_rfl) (by kernel_rfl) (fun _ _ _ h => h) ?_ hHeld ?_
  rotate_left
  · (intro o ho; simp only [List.getElem?_toArray, List.getElem?_cons_succ, List.getElem?_cons_zero, Option.some.injEq] at ho; subst ho; refine Or.inl ⟨by rfl, ?_⟩; intro w hSw; (try dsimp only at hSw); go_simp; try with_reducible rfl)
  try simp only [Act.put, List.setIfInBounds_toArray, List.set_cons_zero, List.set_cons_succ]
  refine wpAnyH_done (by kernel_rfl) ?_ _
  have HFIN := hid (keepS HBh.out hHeld)
  clear hHeld
  go_wp2_with fail
  go_ret
  exact ⟨rfl, HFIN.out⟩

set_option maxRecDepth 100000 in
set_option maxHeartbeats 4000000 in
theorem walk2 (w : World) (a : Option Addr) (n c : Nat) (f : Nat → Int) (a' : Option Addr) (n' c' : Nat) (f' : Nat → Int) (aT aS aL aE : Addr) (hnc : n ≤ c) (hn : n ≤ 9223372036854775807) (h : Seg w a n f) (hf : Byt f) (hnc' : n' ≤ c') (hn' : n' ≤ 9223372036854775807) (h' : Seg w a' n' f') (hf' : Byt f') (hE : Errs w w.heap.size aT aS aL aE) (h0 : n' = 0) :
    Calls Tryd.prog 3 #[.slice a n c, .slice a' n' c'] w fun e w' => e = .returned (.bool true) ∧ Below w.heap.size w w' := by
  obtain ⟨i0, hi, hz0, hz1, hz2⟩ := info_parts Tryd.infoByte
  by_cases hl : n ≤ 1048576
  case neg =>
    go_enter Tryd.func3, Tryd.ntmps3
    go_wp2_with fail
    go_ret
    exact ⟨rfl, Below.refl _ _⟩
  have hl' : n' ≤ 1048576 := by omega
  have HH := hid h
  have HH' := hid h'
  have HF := hid hf
  have HF' := hid hf'
  have HE := hid hE
  clear h h' hf hf' hE
  go_enter Tryd.func3, Tryd.ntmps3
  go_wp2_with fail
  refine (rdUv a n c f _ hnc hn HH.out HF.out).mono ?_
  rintro e w1 ⟨V, hV, rfl, b1⟩
  have HB1 := hid b1
  clear b1
  go_wp2_with fail
  refine (rdText a n c f _ hnc hn (HH.out.below HB1.out) HF.out).mono ?_
  rintro e w2 ⟨s, hs, rfl, b2⟩
  have HB2 := hid (keepS HB1.out b2)
  have z2 := HB2.out.size
  clear b2 HB1
  have ho3 : (w2.alloc (.cells #[] 5)).ownsRow w2.heap.size 5 1 (.slice (some ⟨w2.heap.size, 0, none⟩) 0 0) 0 [] := rowE w2 w2.heap.size (Nat.le_refl _)
  have hb3 : Below w2.heap.size w2 (w2.alloc (.cells #[] 5)) := (Below.refl _ _).alloc (Nat.le_refl _) _
  obtain ⟨W3, hW3⟩ : ∃ W3, w2.alloc (.cells #[] 5) = W3 := ⟨_, rfl⟩
  rw [hW3] at ho3 hb3
  have z3 := hb3.size
  have HB3 := hid (keepS HB2.out hb3)
  have Hb3 := hid hb3
  clear hb3
  have HLh : Hid (([] : List Int).length = 0) := hid rfl
  have hhb : Hid (∀ z ∈ ([] : List Int), 0 ≤ z ∧ z < 256) := fun z hz => by cases hz
  subst h0
  have hghl := (ho3.lt w2.heap.size rfl).2
  have HCSH : Hid (∀ j u, (([] : List Int).map (Value.int .u8))[j]? = some u → W3.cell? ((⟨w2.heap.size, 0, none⟩ : Addr).add j) = some u) := fun j u hj => by simp at hj
  have HB4 := HB3
  have Hq4 := hid (Below.refl W3.heap.size W3)
  clear ho3 HB3 Hb3
  go_wp2_with (at_builtin; refine wpList_app_zero rfl _ _ rfl ⟨w2.heap.size, 0, none⟩ a' c' rfl rfl ?_)
  intro v4 w4 hv4
  have hva := hv4.out.1
  have hvb := hv4.out.2
  clear hv4
  subst hva
  subst hvb
  have HUB1 := hid (uvF_byte 9 V (by omega))
  have HUL1 : Hid ((uvF 9 V).length ≤ 1100) := by have := uvF_len 9 V; show _ ≤ _; omega
  have HUN1 : Hid (uvF 9 V ≠ []) := by have := uvF_len 9 V; intro e; rw [e] at this; simp at this
  have HUB2 : Hid (∀ z ∈ textInts s, 0 ≤ z ∧ z < 256) := fun z hz => by
    rcases List.mem_append.1 hz with h | h
    · exact uvF_byte 9 s.size (by omega) z h
    · exact strInts_byte s z h
  have HUL2 : Hid ((textInts s).length ≤ 1100) := by have := uvF_len 9 s.size; show _ ≤ _; rw [textInts, List.length_append, strInts_length]; omega
  have HUN2 : Hid (textInts s ≠ []) := by have := uvF_len 9 s.size; intro e; have h1 : (textInts s).length = 0 := by rw [e]; rfl
                                          rw [textInts, List.length_append] at h1; omega

  have ho51 := rowE w4 w4.heap.size (Nat.le_refl _)
  have hb51 : Below w4.heap.size w4 (w4.alloc (.cells #[] 5)) := (Below.refl _ _).alloc (Nat.le_refl _) _
  obtain ⟨W5, hW5⟩ : ∃ W5, w4.alloc (.cells #[] 5) = W5 := ⟨_, rfl⟩
  have zW5 : W5.heap.size = w4.heap.size + 1 := by rw [← hW5]; simp
  rw [hW5] at ho51 hb51
  have hr1 : W5.ownsRow w4.heap.size 5 1 (.slice (some ⟨w4.heap.size, 0, none⟩) 0 0) 0 [] := ho51
  have HB51 := hid (keepS HB4.out hb51)
  have Hq51 := hid (Hq4.out.trans (hb51.mono Hq4.out.size))
  have HC1 : Hid (∀ j u, (([] : List Int).map (Value.int .u8))[j]? = some u → W5.cell? ((⟨w2.heap.size, 0, none⟩ : Addr).add j) = some u) := fun j u hj => by
    rw [Hq51.out.cell (p := (⟨w2.heap.size, 0, none⟩ : Addr).add j) (by rw [add_block]; exact hghl)]; exact HCSH.out j u hj
  clear ho51 hb51
  go_wp2_with (at_builtin; refine wpList_append_own _ rfl _ _ 22 rfl w4.heap.size 5 i0 (.int .u8 0) 1 1 Tryd.underlying22 hi hz0 hz1 hz2 rfl (by decide) _ _ _ rfl hr1 ⟨w2.heap.size, 0, none⟩ 0 0 (([] : List Int).map (Value.int .u8)) rfl (by have := HLh.out; simp <;> omega) HC1.out (one_map ([] : List Int)) ?p13 ?p14 ?p15 ?_)
  case p13 => first | (unfold maxLen; omega) | omega
  case p14 => omega
  case p15 => first | omega | (simp; omega)

  intro v6 w6 hown61 hgr61 _
  have hd61 : w6.ownsRow w4.heap.size 5 1 v6 0 (([] : List Int).map (Value.int .u8)) := by simpa using hown61
  have hb61 : Below w4.heap.size W5 w6 := (Below.refl _ _).grown hgr61 (by omega) (fun k hk => (hr1.lt k hk).1)
  have z61 := hb61.size
  have HB61 := hid (HB51.out.trans (hb61.mono (by have := HB4.out.size; omega)))
  have Hq61 := hid (Hq51.out.trans (hb61.mono (by have := Hq4.out.size; omega)))
  have HD61 := hid hd61
  clear hown61 hgr61 hb61 HC1 hr1 hW5 HB51 Hq51 hd61
  go_wp2_with fail
  refine (implUv V _ hV).mono ?_
  rintro e w7 ⟨v7, rfl, o71, b71, z71⟩
  have hby71 : ∀ z ∈ uvF 9 V, 0 ≤ z ∧ z < 256 := HUB1.out
  obtain ⟨g71, cap71, e71, _, hg71, hcs71⟩ := Bys.cells ⟨o71, hby71⟩ HUN1.out
  subst e71
  have hd71 : w7.ownsRow w4.heap.size 5 1 v6 0 (([] : List Int).map (Value.int .u8)) := owns_kept HD61.out b71
  have HB71 := hid (keepS HB61.out b71)
  have Hq71 := hid (Hq61.out.trans (b71.mono Hq61.out.size))
  have zz71 := b71.size
  have HC71 := hid hcs71
  clear o71 b71 hcs71 HB61 Hq61 HD61 hby71
  obtain ⟨Lu1, hLu1⟩ : ∃ Lu, (uvF 9 V).length = Lu := ⟨_, rfl⟩
  have HLu1 := hid hLu1
  have hub1 : Lu1 ≤ 1100 := by rw [← hLu1]; exact HUL1.out
  have hup1 : 0 < Lu1 := by
    rcases Nat.eq_zero_or_pos Lu1 with h0 | h0
    · rw [h0] at hLu1; exact absurd (List.length_eq_zero_iff.1 hLu1) HUN1.out
    · exact h0
  rw [hLu1]
  clear hLu1
  go_wp2_with (at_builtin; refine wpList_append_own _ rfl _ _ 22 rfl w4.heap.size 5 i0 (.int .u8 0) 1 1 Tryd.underlying22 hi hz0 hz1 hz2 rfl (by decide) _ _ _ rfl hd71 ⟨g71, 0, none⟩ Lu1 cap71 ((uvF 9 V).map (Value.int .u8)) rfl (by have := HLu1.out; simp <;> omega) HC71.out (one_map _) ?r13 ?r14 ?r15 ?_)
  case r13 => first | (unfold maxLen; omega) | omega
  case r14 => omega
  case r15 => first | omega | (simp; omega)

  intro v8 w8 hown81 hgr81 _
  have hb81 : Below w4.heap.size w7 w8 := (Below.refl _ _).grown hgr81 (by omega) (fun k hk => (hd71.lt k hk).1)
  have R81 : Bys w8 w4.heap.size v8 (([] : List Int) ++ (uvF 9 V)) := bys_app hhb.out HUB1.out (by rw [HLh.out, HLu1.out]; first | exact hown81 | simpa using hown81)
  have zz81 := hb81.size
  have HB81 := hid (HB71.out.trans (hb81.mono (by have := HB4.out.size; omega)))
  have Hq81 := hid (Hq71.out.trans (hb81.mono (by have := Hq4.out.size; omega)))
  obtain ⟨a81, c81, e81, hnc81, sg81, hlt81⟩ := Bys.seg R81
  subst e81
  obtain ⟨N1, hN1⟩ : ∃ N, (([] : List Int) ++ (uvF 9 V)).length = N := ⟨_, rfl⟩
  have HN1 : Hid (N1 = 0 + Lu1) := by show _ = _; rw [← hN1, List.length_append, HLh.out, HLu1.out]
  have hNb1 : N1 ≤ 1300 := by have := HN1.out; omega
  have HF81 := hid (bytesOf R81.2)
  rw [hN1] at hnc81 sg81 ⊢
  have HS81 := hid sg81
  have HT81 := hid hlt81
  clear hown81 hgr81 hb81 hd71 HB71 Hq71 HC71 R81 sg81 hlt81 hN1 HB4 Hq4

  obtain ⟨m1, hm1⟩ := cnt_ex (fun i => (([] : List Int) ++ uvF 9 V).getD i 0) N1 0
  have hat1 : At (fun i => (([] : List Int) ++ uvF 9 V).getD i 0) 0 (uvF 9 V) := by have := at_app ([] : List Int) (uvF 9 V) []; rw [List.append_nil, HLh.out] at this; exact this
  have hg1 : gX (fun i => (([] : List Int) ++ uvF 9 V).getD i 0) N1 m1 (0 : Int) = (V, ((0 + (uvF 9 V).length : Nat) : Int), 0) := gX_put (p := 0) hV hat1 (by rw [HLu1.out, HN1.out] <;> omega) hm1
  have HX1 := hid (implX w.heap.size a81 N1 c81 m1 (0 : Int) (fun i => (([] : List Int) ++ uvF 9 V).getD i 0) aT aS aL aE w8 (by omega) HF81.out HS81.out (by simpa using hm1) (HE.out.below HB81.out) HB81.out.size)
  rw [HLu1.out] at hg1
  rw [hg1] at HX1
  clear hat1 hm1 hg1
  go_wp2_with fail
  refine HX1.out.mono ?_
  rintro e w9 ⟨rfl, b9⟩
  have z9 := b9.size
  have HB9 := hid (keepS HB81.out b9)
  have Hq9 := hid (Hq81.out.trans (b9.mono Hq81.out.size))
  have hN1e : (0 : Nat) + Lu1 = N1 := HN1.out.symm
  clear b9 HX1 HB81 Hq81 HS81 HT81 HF81

  have ho52 := rowE w9 w9.heap.size (Nat.le_refl _)
  have hb52 : Below w9.heap.size w9 (w9.alloc (.cells #[] 5)) := (Below.refl _ _).alloc (Nat.le_refl _) _
  obtain ⟨Wa, hWa⟩ : ∃ Wa, w9.alloc (.cells #[] 5) = Wa := ⟨_, rfl⟩
  have zWa : Wa.heap.size = w9.heap.size + 1 := by rw [← hWa]; simp
  rw [hWa] at ho52 hb52
  have hr2 : Wa.ownsRow w9.heap.size 5 1 (.slice (some ⟨w9.heap.size, 0, none⟩) 0 0) 0 [] := ho52
  have HB52 := hid (keepS HB9.out hb52)
  have Hq52 := hid (Hq9.out.trans (hb52.mono Hq9.out.size))
  have HC2 : Hid (∀ j u, (([] : List Int).map (Value.int .u8))[j]? = some u → Wa.cell? ((⟨w2.heap.size, 0, none⟩ : Addr).add j) = some u) := fun j u hj => by
    rw [Hq52.out.cell (p := (⟨w2.heap.size, 0, none⟩ : Addr).add j) (by rw [add_block]; exact hghl)]; exact HCSH.out j u hj
  clear ho52 hb52
  go_wp2_with (at_builtin; refine wpList_append_own _ rfl _ _ 22 rfl w9.heap.size 5 i0 (.int .u8 0) 1 1 Tryd.underlying22 hi hz0 hz1 hz2 rfl (by decide) _ _ _ rfl hr2 ⟨w2.heap.size, 0, none⟩ 0 0 (([] : List Int).map (Value.int .u8)) rfl (by have := HLh.out; simp <;> omega) HC2.out (one_map ([] : List Int)) ?p23 ?p24 ?p25 ?_)
  case p23 => first | (unfold maxLen; omega) | omega
  case p24 => omega
  case p25 => first | omega | (simp; omega)

  intro va wa hown62 hgr62 _
  have hd62 : wa.ownsRow w9.heap.size 5 1 va 0 (([] : List Int).map (Value.int .u8)) := by simpa using hown62
  have hb62 : Below w9.heap.size Wa wa := (Below.refl _ _).grown hgr62 (by omega) (fun k hk => (hr2.lt k hk).1)
  have z62 := hb62.size
  have HB62 := hid (HB52.out.trans (hb62.mono (by have := HB9.out.size; omega)))
  have Hq62 := hid (Hq52.out.trans (hb62.mono (by have := Hq9.out.size; omega)))
  have HD62 := hid hd62
  clear hown62 hgr62 hb62 HC2 hr2 hWa HB52 Hq52 hd62
  go_wp2_with fail
  refine (implText s _ (by omega)).mono ?_
  rintro e wb ⟨vb, rfl, o72, b72, z72⟩
  have hby72 : ∀ z ∈ textInts s, 0 ≤ z ∧ z < 256 := HUB2.out
  obtain ⟨g72, cap72, e72, _, hg72, hcs72⟩ := Bys.cells ⟨o72, hby72⟩ HUN2.out
  subst e72
  have hd72 : wb.ownsRow w9.heap.size 5 1 va 0 (([] : List Int).map (Value.int .u8)) := owns_kept HD62.out b72
  have HB72 := hid (keepS HB62.out b72)
  have Hq72 := hid (Hq62.out.trans (b72.mono Hq62.out.size))
  have zz72 := b72.size
  have HC72 := hid hcs72
  clear o72 b72 hcs72 HB62 Hq62 HD62 hby72
  obtain ⟨Lu2, hLu2⟩ : ∃ Lu, (textInts s).length = Lu := ⟨_, rfl⟩
  have HLu2 := hid hLu2
  have hub2 : Lu2 ≤ 1100 := by rw [← hLu2]; exact HUL2.out
  have hup2 : 0 < Lu2 := by
    rcases Nat.eq_zero_or_pos Lu2 with h0 | h0
    · rw [h0] at hLu2; exact absurd (List.length_eq_zero_iff.1 hLu2) HUN2.out
    · exact h0
  rw [hLu2]
  clear hLu2
  go_wp2_with (at_builtin; refine wpList_append_own _ rfl _ _ 22 rfl w9.heap.size 5 i0 (.int .u8 0) 1 1 Tryd.underlying22 hi hz0 hz1 hz2 rfl (by decide) _ _ _ rfl hd72 ⟨g72, 0, none⟩ Lu2 cap72 ((textInts s).map (Value.int .u8)) rfl (by have := HLu2.out; simp <;> omega) HC72.out (one_map _) ?r23 ?r24 ?r25 ?_)
  case r23 => first | (unfold maxLen; omega) | omega
  case r24 => omega
  case r25 => first | omega | (simp; omega)

  intro vc wc hown82 hgr82 _
  have hb82 : Below w9.heap.size wb wc := (Below.refl _ _).grown hgr82 (by omega) (fun k hk => (hd72.lt k hk).1)
  have R82 : Bys wc w9.heap.size vc (([] : List Int) ++ (textInts s)) := bys_app hhb.out HUB2.out (by rw [HLh.out, HLu2.out]; first | exact hown82 | simpa using hown82)
  have zz82 := hb82.size
  have HB82 := hid (HB72.out.trans (hb82.mono (by have := HB9.out.size; omega)))
  have Hq82 := hid (Hq72.out.trans (hb82.mono (by have := Hq9.out.size; omega)))
  obtain ⟨a82, c82, e82, hnc82, sg82, hlt82⟩ := Bys.seg R82
  subst e82
  obtain ⟨N2, hN2⟩ : ∃ N, (([] : List Int) ++ (textInts s)).length = N := ⟨_, rfl⟩
  have HN2 : Hid (N2 = 0 + Lu2) := by show _ = _; rw [← hN2, List.length_append, HLh.out, HLu2.out]
  have hNb2 : N2 ≤ 1300 := by have := HN2.out; omega
  have HF82 := hid (bytesOf R82.2)
  rw [hN2] at hnc82 sg82 ⊢
  have HS82 := hid sg82
  have HT82 := hid hlt82
  clear hown82 hgr82 hb82 hd72 HB72 Hq72 HC72 R82 sg82 hlt82 hN2 HB9 Hq9

  obtain ⟨m2, hm2⟩ := cnt_ex (fun i => (([] : List Int) ++ textInts s).getD i 0) N2 0
  have hat2 : At (fun i => (([] : List Int) ++ textInts s).getD i 0) 0 (uvF 9 s.size) := by have := at_app ([] : List Int) (uvF 9 s.size) (strInts s); rw [List.append_assoc, HLh.out] at this; exact this
  have hul2 := uvF_len 9 s.size
  have hLt : Lu2 = (uvF 9 s.size).length + s.size := by rw [← HLu2.out, textInts, List.length_append, strInts_length]
  have hg2 := gX_put (p := 0) (V := s.size) (by omega) hat2 (by rw [HN2.out]; omega) hm2
  have hst : strF (fun i => (([] : List Int) ++ textInts s).getD i 0) (0 + (uvF 9 s.size).length) s.size = s := by
    have := str_reads (([] : List Int) ++ uvF 9 s.size) (strInts s) s rfl
    rw [List.append_assoc, List.length_append, HLh.out] at this
    exact this
  have hok2 : gtX (fun i => (([] : List Int) ++ textInts s).getD i 0) N2 m2 (0 : Int) (s.size : Int) = (s, ((0 + (uvF 9 s.size).length + s.size : Nat) : Int), 0) := gtX_ok (p := 0) hg2 (by rw [HN2.out]; omega) hst
  have hlo2 : gtX (fun i => (([] : List Int) ++ textInts s).getD i 0) N2 m2 (0 : Int) ((s.size : Int) - 1) = (⟨#[]⟩, (0 : Int), 4) := gtX_long (p := 0) hg2
  have hE2 : 0 + (uvF 9 s.size).length + s.size = N2 := by rw [HN2.out]; omega
  rw [hE2] at hok2
  have HT1 := hid (implT w.heap.size a82 N2 c82 m2 (0 : Int) (s.size : Int) (fun i => (([] : List Int) ++ textInts s).getD i 0) aT aS aL aE wc (by omega) hnc82 HF82.out HS82.out HT82.out (by simpa using hm2) (HE.out.below HB82.out) HB82.out.size (Go.WalkArith.wf_i64 (by omega)) (Go.WalkArith.wf_i64 (by omega)))
  rw [hok2] at HT1
  have HT2 : Hid (∀ w', Below wc.heap.size wc w' → Calls Tryd.prog 10 #[.slice a82 N2 c82, .int .i64 (0 : Int), .int .i64 ((s.size : Int) - 1)] w' fun e w'' => e = .returned (.tuple #[.string ⟨#[]⟩, .int .i64 (0 : Int), .int .i64 4]) ∧ Below w'.heap.size w' w'') := fun w' hb => by
    have := implT w.heap.size a82 N2 c82 m2 (0 : Int) ((s.size : Int) - 1) (fun i => (([] : List Int) ++ textInts s).getD i 0) aT aS aL aE w' (by omega) hnc82 HF82.out (HS82.out.below hb) (fun y hy => Nat.lt_of_lt_of_le (HT82.out y hy) hb.size) (by simpa using hm2) (HE.out.below (keepS HB82.out hb)) (Nat.le_trans HB82.out.size hb.size) (Go.WalkArith.wf_i64 (by omega)) (Go.WalkArith.wf_i64 (by omega))
    rw [hlo2] at this
    exact this
  clear hat2 hm2 hg2 hst hok2 hlo2 hE2 hLt hul2
  go_wp2_with fail
  refine HT1.out.mono ?_
  rintro e wd ⟨rfl, bd⟩
  have zd := bd.size
  have HBd := hid (keepS HB82.out bd)
  have Hbd := hid bd
  clear bd HT1
  go_wp2_with fail
  refine (HT2.out wd Hbd.out).mono ?_
  rintro e we ⟨rfl, be⟩
  have HBe := hid (keepS HBd.out be)
  clear be HT2 HBd Hbd HB82 Hq82 HS82 HT82 HF82
  go_wp2_with fail
  refine (rdGet a' 0 c' f' _ hnc' hn' (HH'.out.below HBe.out) HF'.out).mono ?_
  rintro e wf ⟨vr, zs, x, rfl, hzl, hx0, hx1, byr, bf⟩
  have HBf := hid (keepS HBe.out bf)
  obtain ⟨ar, cr, er, hncr, sgr, hltr⟩ := Bys.seg byr
  subst er
  have HFr := hid (bytesOf byr.2)
  have HSr := hid sgr
  obtain ⟨Nr, hNr⟩ : ∃ Nr, zs.length = Nr := ⟨_, rfl⟩
  rw [hNr] at hzl hncr HSr ⊢
  clear bf byr sgr HBe hNr hltr
  obtain ⟨fr, hfr⟩ : ∃ fr : Nat → Int, (fun i => zs.getD i 0) = fr := ⟨_, rfl⟩
  rw [hfr] at HFr HSr
  clear hfr
  obtain ⟨mr, hmr⟩ := cnt_ex fr Nr x.toNat
  have HMr := hid hmr
  have HZ := hid (fun h => gX_zero HFr.out hmr h)
  have HBD := hid (gX_bounds hmr HFr.out (by omega) (by omega) (by omega : x ≤ 9223372036854775807))
  have HP1 := hid (specX ar Nr cr mr x fr wf (by omega) HFr.out HSr.out hmr)
  have HP2 : Hid (∀ w', Below wf.heap.size wf w' → Calls Tryd.prog 8 #[.slice ar Nr cr, .int .i64 x] w' fun e w'' => e = .returned (.tuple #[.int .u64 ((gX fr Nr mr x).1 : Int), .int .i64 (gX fr Nr mr x).2.1, .int .i64 ((gX fr Nr mr x).2.2 : Int)]) ∧ Below w'.heap.size w' w'') := fun w' hb =>
    implX w.heap.size ar Nr cr mr x fr aT aS aL aE w' (by omega) HFr.out (HSr.out.below hb) hmr (HE.out.below (keepS HBf.out hb)) (Nat.le_trans HBf.out.size hb.size)
  clear hmr
  obtain ⟨Vr, hVr⟩ : ∃ Vr, (gX fr Nr mr x).1 = Vr := ⟨_, rfl⟩
  obtain ⟨Ar, hAr⟩ : ∃ Ar, (gX fr Nr mr x).2.1 = Ar := ⟨_, rfl⟩
  obtain ⟨Cr, hCr⟩ : ∃ Cr, (gX fr Nr mr x).2.2 = Cr := ⟨_, rfl⟩
  rw [hVr, hAr, hCr] at HP1 HP2 HZ HBD
  clear hVr hAr hCr
  go_wp2_with fail
  refine HP1.out.mono ?_
  rintro e wg ⟨rfl, bg⟩
  have Hbg := hid bg
  clear bg HP1
  go_wp2_with fail
  refine (HP2.out wg Hbg.out).mono ?_
  rintro e wh ⟨rfl, bh⟩
  have Hbh := hid (keepS Hbg.out bh)
  have HBh := hid (keepS HBf.out Hbh.out)
  clear bh HP2 Hbg
  by_cases hc0 : Cr = 0
  focus
    subst hc0
    obtain ⟨px, hpx, hpn, hV64, hA, hU⟩ := HZ.out rfl
    subst hpx
    obtain ⟨E2, hE2⟩ : ∃ E2 : Nat, E2 = px + mr + 1 := ⟨_, rfl⟩
    rw [← hE2] at hA hpn
    subst hA
    have HE2 := hid hE2
    have HSh := hid (HSr.out.below Hbh.out)
    have hul := uvF_len 9 Vr
    rcases HSh.out with h0 | ⟨br, offr, er, hbr, hcr⟩
    · omega
    subst er
    have HU := hid hU
    have hstr : ∀ w', Below wh.heap.size wh w' → ∀ cap, (convert 22 9 (.slice (some ⟨br, offr + px, none⟩) (E2 - px) cap)).run Tryd.prog w' = .ok (.string (bytesStr (uvF 9 Vr))) w' := fun w' hb cap => by
      have e : E2 - px = mr + 1 := by have := HE2.out; omega
      rw [e]
      have := strF_conv (w := w') (b := br) (off := offr) (p := px) (L := mr + 1) (cap := cap) HFr.out (fun i hi => by rw [hb.cell (p := ⟨br, offr + px + i, none⟩) hbr, Nat.add_assoc]; exact hcr (px + i) (by have := HE2.out; omega))
      rw [strF_bytes, ← HU.out] at this
      exact this
    have HSTR := hid hstr
    have hs0 := hstr wh (Below.refl _ _)
    have hNU : uvF 9 Vr ≠ [] := fun e => by rw [e] at hul; simp at hul
    have hBU := uvF_byte 9 Vr (by omega)
    have hpE : px ≤ E2 := by omega
    have hEc : E2 ≤ cr := by omega
    have hcpx : ¬ cr = px := by omega
    have hi1 : (0 : Int) ≤ (px : Int) := Int.natCast_nonneg _
    have hi2 : (px : Int) ≤ (E2 : Int) := by omega
    have hi3 : (E2 : Int) ≤ (cr : Int) := by omega
    obtain ⟨TT, hTT⟩ : ∃ TT, bytesStr (uvF 9 Vr) = TT := ⟨_, rfl⟩
    rw [hTT] at HSTR hs0
    have HTT := hid hTT
    have HNU := hid hNU
    have HBU := hid hBU
    clear hE2 hcr hU HU hstr hTT hNU hBU HSh HZ HBD
    go_wp2_with fail
    refine wp_region_held_drew (S := fun w' => Below wh.heap.size wh w' ∧ ∀ cap, (convert 22 9 (.slice (some ⟨br, offr + px, none⟩) (E2 - px) cap)).run Tryd.prog w' = .ok (.string TT) w') (by kernel_rfl) ⟨(Below.refl _ _).drew, HSTR.out _ (Below.refl _ _).drew⟩ (fun hHeld => ?_)
    refine take1 (i := 0) (d := some 155) (v := ?_) (by kernel_rfl) (by kernel_rfl) (by kernel_rfl) (by kernel_rfl) (fun _ _ _ h => h) ?_ hHeld ?_
    rotate_left
    · (intro o ho; simp only [List.getElem?_toArray, List.getElem?_cons_succ, List.getElem?_cons_zero, Option.some.injEq] at ho; subst ho; refine Or.inl ⟨by rfl, ?_⟩; intro w hSw; (try dsimp only at hSw); go_simp; try with_reducible rfl)
    try simp only [Act.put, List.setIfInBounds_toArray, List.set_cons_zero, List.set_cons_succ]
    refine take1 (i := 1) (d := some 156) (v := ?_) (by kernel_rfl) (by kernel_rfl) (by kernel_rfl) (by kernel_rfl) (fun _ _ _ h => h) ?_ hHeld ?_
    rotate_left
    · (intro o ho; simp only [List.getElem?_toArray, List.getElem?_cons_succ, List.getElem?_cons_zero, Option.some.injEq] at ho; subst ho; refine Or.inl ⟨by rfl, ?_⟩; intro w hSw; (try dsimp only at hSw); go_simp; try with_reducible rfl)
    try simp only [Act.put, List.setIfInBounds_toArray, List.set_cons_zero, List.set_cons_succ]
    refine take1 (i := 2) (d := some 157) (v := ?_) (by kernel_rfl) (by kernel_rfl) (by kernel_rfl) (by kernel_rfl) (fun _ _ _ h => h) ?_ hHeld ?_
    rotate_left
    · (intro o ho; simp only [List.getElem?_toArray, List.getElem?_cons_succ, List.getElem?_cons_zero, Option.some.injEq] at ho; subst ho; refine Or.inl ⟨by rfl, ?_⟩; intro w hSw; (try dsimp only at hSw); go_simp; try with_reducible rfl)
    try simp only [Act.put, List.setIfInBounds_toArray, List.set_cons_zero, List.set_cons_succ]
    refine take1 (i := 3) (d := some 158) (v := ?_) (by kernel_rfl) (by kernel_rfl) (by kernel_rfl) (by kernel_rfl) (fun _ _ _ h => h) ?_ hHeld ?_
    rotate_left
    · (intro o ho; simp only [List.getElem?_toArray, List.getElem?_cons_succ, List.getElem?_cons_zero, Option.some.injEq] at ho; subst ho; refine Or.inl ⟨by rfl, ?_⟩; intro w hSw; (try dsimp only at hSw); go_simp; try with_reducible rfl)
    try simp only [Act.put, List.setIfInBounds_toArray, List.set_cons_zero, List.set_cons_succ]
    refine take1 (i := 6) (d := some 161) (v := ?_) (by kernel_rfl) (by kernel_rfl) (by kernel_rfl) (by kernel_rfl) (fun _ _ _ h => h) ?_ hHeld ?_
    rotate_left
    · (intro o ho; simp only [List.getElem?_toArray, List.getElem?_cons_succ, List.getElem?_cons_zero, Option.some.injEq] at ho; subst ho; refine Or.inl ⟨by rfl, ?_⟩; intro w hSw; (try dsimp only at hSw); go_simp; try with_reducible rfl)
    try simp only [Act.put, List.setIfInBounds_toArray, List.set_cons_zero, List.set_cons_succ]
    refine take1 (i := 7) (d := some 162) (v := ?_) (by kernel_rfl) (by kernel_rfl) (by kernel_rfl) (by kernel_rfl) (fun _ _ _ h => h) ?_ hHeld ?_
    rotate_left
    · (intro o ho; simp only [List.getElem?_toArray, List.getElem?_cons_succ, List.getElem?_cons_zero, Option.some.injEq] at ho; subst ho; refine Or.inl ⟨by rfl, ?_⟩; intro w hSw; (try dsimp only at hSw); go_simp; try with_reducible rfl)
    try simp only [Act.put, List.setIfInBounds_toArray, List.set_cons_zero, List.set_cons_succ]
    refine take1 (i := 8) (d := some 163) (v := ?_) (by kernel_rfl) (by kernel_rfl) (by kernel_rfl) (by kernel_rfl) (fun _ _ _ h => h) ?_ hHeld ?_
    rotate_left
    · (intro o ho; simp only [List.getElem?_toArray, List.getElem?_cons_succ, List.getElem?_cons_zero, Option.some.injEq] at ho; subst ho; refine Or.inl ⟨by rfl, ?_⟩; intro w hSw; (try dsimp only at hSw); go_simp; try with_reducible rfl)
    try simp only [Act.put, List.setIfInBounds_toArray, List.set_cons_zero, List.set_cons_succ]
    refine take1 (i := 9) (d := some 164) (v := ?_) (by kernel_rfl) (by kernel_rfl) (by kernel_rfl) (by kernel_rfl) (fun _ _ _ h => h) ?_ hHeld ?_
    rotate_left
    · (intro o ho; simp only [List.getElem?_toArray, List.getElem?_cons_succ, List.getElem?_cons_zero, Option.some.injEq] at ho; subst ho; refine Or.inl ⟨by rfl, ?_⟩; intro w hSw; (try dsimp only at hSw); go_simp; try with_reducible rfl)
    try simp only [Act.put, List.setIfInBounds_toArray, List.set_cons_zero, List.set_cons_succ]
    refine take1 (i := 10) (d := some 165) (v := ?_) (by kernel_rfl) (by kernel_rfl) (by kernel_rfl) (by kernel_rfl) (fun _ _ _ h => h) ?_ hHeld ?_
    rotate_left
    · (intro o ho; simp only [List.getElem?_toArray, List.getElem?_cons_succ, List.getElem?_cons_zero, Option.some.injEq] at ho; subst ho; refine Or.inl ⟨by rfl, ?_⟩; intro w hSw; (try dsimp only at hSw); go_simp; try with_reducible rfl)
    try simp only [Act.put, List.setIfInBounds_toArray, List.set_cons_zero, List.set_cons_succ]
    refine call1 (i := 4) (d := some 159) (by kernel_rfl) (by kernel_rfl) ?_
    intro o ho hod K hK; simp only [List.getElem?_toArray, List.getElem?_cons_succ, List.getElem?_cons_zero, Option.some.injEq] at ho; subst ho
    go_simp
    refine (implUv Vr _ hV64).mono ?_
    rintro e wi ⟨vi, rfl, oi, bi, zi⟩
    have hBi := keepS hHeld.1 bi
    have hcvi := strBys ⟨oi, HBU.out⟩ HNU.out
    rw [HTT.out] at hcvi
    refine hK.out _ _ ⟨hBi, HSTR.out _ hBi⟩ (fun hHeld => ?_)
    clear hK K
    try simp only [Act.put, List.setIfInBounds_toArray, List.set_cons_zero, List.set_cons_succ]
    refine call1 (i := 5) (d := some 160) (by kernel_rfl) (by kernel_rfl) ?_
    intro o ho hod K hK; simp only [List.getElem?_toArray, List.getElem?_cons_succ, List.getElem?_cons_zero, Option.some.injEq] at ho; subst ho
    go_simp
    refine hK.out _ _ ⟨hBi, HSTR.out _ hBi⟩ (fun hHeld => ?_)
    clear hK K
    try simp only [Act.put, List.setIfInBounds_toArray, List.set_cons_zero, List.set_cons_succ]
    refine take1 (i := 11) (d := some 166) (v := ?_) (by kernel_rfl) (by kernel_rfl) (by kernel_rfl) (by kernel_rfl) (fun _ _ _ h => h) ?_ hHeld ?_
    rotate_left
    · (intro o ho; simp only [List.getElem?_toArray, List.getElem?_cons_succ, List.getElem?_cons_zero, Option.some.injEq] at ho; subst ho; refine Or.inl ⟨by rfl, ?_⟩; intro w hSw; (try dsimp only at hSw); go_simp; try with_reducible rfl)
    try simp only [Act.put, List.setIfInBounds_toArray, List.set_cons_zero, List.set_cons_succ]
    refine take1 (i := 12) (d := some 167) (v := ?_) (by kernel_rfl) (by kernel_rfl) (by kernel_rfl) (by kernel_rfl) (fun _ _ _ h => h) ?_ hHeld ?_
    rotate_left
    · (intro o ho; simp only [List.getElem?_toArray, List.getElem?_cons_succ, List.getElem?_cons_zero, Option.some.injEq] at ho; subst ho; refine Or.inl ⟨by rfl, ?_⟩; intro w hSw; (try dsimp only at hSw); go_simp; try with_reducible rfl)
    try simp only [Act.put, List.setIfInBounds_toArray, List.set_cons_zero, List.set_cons_succ]
    refine take1 (i := 13) (d := some 4) (v := ?_) (by kernel_rfl) (by kernel_rfl) (by kernel_rfl) (by kernel_rfl) (fun _ _ _ h => h) ?_ hHeld ?_
    rotate_left
    · (intro o ho; simp only [List.getElem?_toArray, List.getElem?_cons_succ, List.getElem?_cons_zero, Option.some.injEq] at ho; subst ho; refine Or.inl ⟨by rfl, ?_⟩; intro w hSw; (try dsimp only at hSw); go_simp; try with_reducible rfl)
    try simp only [Act.put, List.setIfInBounds_toArray, List.set_cons_zero, List.set_cons_succ]
    refine wpAnyH_done (by kernel_rfl) ?_ _
    have HFIN := hid (keepS HBh.out hBi)
    clear hHeld hBi hcvi oi bi
    go_wp2_with fail
    go_ret
    exact ⟨rfl, HFIN.out⟩
  have hcn : ¬ (Cr : Int) = 0 := by omega
  have hcb : ((Cr : Int) == 0) = false := by simpa using hcn
  have hcp : 0 < Cr := by omega
  have hcb2 : ((Cr : Int) != 0) = true := by simp; omega
  have hcb3 : (Cr == 0) = false := by simp; omega
  have hcb4 : (Cr != 0) = true := by simp; omega
  have hcb5 : decide (Cr = 0) = false := by simp; omega
  have hcb6 : decide ((Cr : Int) = 0) = false := by simp; omega
  have hcb7 : ¬ Cr = 0 := hc0
  clear HZ HBD
  go_wp2_with fail
  refine wp_region_held_drew (S := fun w' => Below wh.heap.size wh w') (by kernel_rfl) (Below.refl _ _).drew (fun hHeld => ?_)
  refine take1 (i := 0) (d := some 155) (v := ?_) (by kernel_rfl) (by kernel_rfl) (by kernel_rfl) (by kernel_rfl) (fun _ _ _ h => h) ?_ hHeld ?_
  rotate_left
  · (intro o ho; simp only [List.getElem?_toArray, List.getElem?_cons_succ, List.getElem?_cons_zero, Option.some.injEq] at ho; subst ho; refine Or.inl ⟨by rfl, ?_⟩; intro w hSw; (try dsimp only at hSw); go_simp; try with_reducible rfl)
  try simp only [Act.put, List.setIfInBounds_toArray, List.set_cons_zero, List.set_cons_succ]
  refine take1 (i := 1) (d := some 156) (v := ?_) (by kernel_rfl) (by kernel_rfl) (by kernel_rfl) (by kernel_rfl) (fun _ _ _ h => h) ?_ hHeld ?_
  rotate_left
  · (intro o ho; simp only [List.getElem?_toArray, List.getElem?_cons_succ, List.getElem?_cons_zero, Option.some.injEq] at ho; subst ho; refine Or.inl ⟨by rfl, ?_⟩; intro w hSw; (try dsimp only at hSw); go_simp; try with_reducible rfl)
  try simp only [Act.put, List.setIfInBounds_toArray, List.set_cons_zero, List.set_cons_succ]
  refine take1 (i := 2) (d := some 157) (v := ?_) (by kernel_rfl) (by kernel_rfl) (by kernel_rfl) (by kernel_rfl) (fun _ _ _ h => h) ?_ hHeld ?_
  rotate_left
  · (intro o ho; simp only [List.getElem?_toArray, List.getElem?_cons_succ, List.getElem?_cons_zero, Option.some.injEq] at ho; subst ho; refine Or.inl ⟨by rfl, ?_⟩; intro w hSw; (try dsimp only at hSw); go_simp; try with_reducible rfl)
  try simp only [Act.put, List.setIfInBounds_toArray, List.set_cons_zero, List.set_cons_succ]
  try simp only [hcb, hcb2, hcb3, hcb4, hcb5, hcb6, Bool.not_false, Bool.not_true]
  refine take1 (i := 3) (d := some 158) (v := undef) (by kernel_rfl) (by kernel_rfl) (by kernel_rfl) (by kernel_rfl) (fun _ _ _ h => h) ?_ hHeld ?_
  · (intro o ho; simp only [List.getElem?_toArray, List.getElem?_cons_succ, List.getElem?_cons_zero, Option.some.injEq] at ho; subst ho; exact Or.inr ⟨by rfl, rfl⟩)
  try simp only [Act.put, List.setIfInBounds_toArray, List.set_cons_zero, List.set_cons_succ]
  refine take1 (i := 4) (d := some 159) (v := undef) (by kernel_rfl) (by kernel_rfl) (by kernel_rfl) (by kernel_rfl) (fun _ _ _ h => h) ?_ hHeld ?_
  · (intro o ho; simp only [List.getElem?_toArray, List.getElem?_cons_succ, List.getElem?_cons_zero, Option.some.injEq] at ho; subst ho; exact Or.inr ⟨by rfl, rfl⟩)
  try simp only [Act.put, List.setIfInBounds_toArray, List.set_cons_zero, List.set_cons_succ]
  refine take1 (i := 5) (d := some 160) (v := undef) (by kernel_rfl) (by kernel_rfl) (by kernel_rfl) (by kernel_rfl) (fun _ _ _ h => h) ?_ hHeld ?_
  · (intro o ho; simp only [List.getElem?_toArray, List.getElem?_cons_succ, List.getElem?_cons_zero, Option.some.injEq] at ho; subst ho; exact Or.inr ⟨by rfl, rfl⟩)
  try simp only [Act.put, List.setIfInBounds_toArray, List.set_cons_zero, List.set_cons_succ]
  refine take1 (i := 6) (d := some 161) (v := undef) (by kernel_rfl) (by kernel_rfl) (by kernel_rfl) (by kernel_rfl) (fun _ _ _ h => h) ?_ hHeld ?_
  · (intro o ho; simp only [List.getElem?_toArray, List.getElem?_cons_succ, List.getElem?_cons_zero, Option.some.injEq] at ho; subst ho; exact Or.inr ⟨by rfl, rfl⟩)
  try simp only [Act.put, List.setIfInBounds_toArray, List.set_cons_zero, List.set_cons_succ]
  refine take1 (i := 7) (d := some 162) (v := undef) (by kernel_rfl) (by kernel_rfl) (by kernel_rfl) (by kernel_rfl) (fun _ _ _ h => h) ?_ hHeld ?_
  · (intro o ho; simp only [List.getElem?_toArray, List.getElem?_cons_succ, List.getElem?_cons_zero, Option.some.injEq] at ho; subst ho; exact Or.inr ⟨by rfl, rfl⟩)
  try simp only [Act.put, List.setIfInBounds_toArray, List.set_cons_zero, List.set_cons_succ]
  refine take1 (i := 8) (d := some 163) (v := undef) (by kernel_rfl) (by kernel_rfl) (by kernel_rfl) (by kernel_rfl) (fun _ _ _ h => h) ?_ hHeld ?_
  · (intro o ho; simp only [List.getElem?_toArray, List.getElem?_cons_succ, List.getElem?_cons_zero, Option.some.injEq] at ho; subst ho; exact Or.inr ⟨by rfl, rfl⟩)
  try simp only [Act.put, List.setIfInBounds_toArray, List.set_cons_zero, List.set_cons_succ]
  refine take1 (i := 9) (d := some 164) (v := undef) (by kernel_rfl) (by kernel_rfl) (by kernel_rfl) (by kernel_rfl) (fun _ _ _ h => h) ?_ hHeld ?_
  · (intro o ho; simp only [List.getElem?_toArray, List.getElem?_cons_succ, List.getElem?_cons_zero, Option.some.injEq] at ho; subst ho; exact Or.inr ⟨by rfl, rfl⟩)
  try simp only [Act.put, List.setIfInBounds_toArray, List.set_cons_zero, List.set_cons_succ]
  refine take1 (i := 10) (d := some 165) (v := undef) (by kernel_rfl) (by kernel_rfl) (by kernel_rfl) (by kernel_rfl) (fun _ _ _ h => h) ?_ hHeld ?_
  · (intro o ho; simp only [List.getElem?_toArray, List.getElem?_cons_succ, List.getElem?_cons_zero, Option.some.injEq] at ho; subst ho; exact Or.inr ⟨by rfl, rfl⟩)
  try simp only [Act.put, List.setIfInBounds_toArray, List.set_cons_zero, List.set_cons_succ]
  refine take1 (i := 11) (d := some 166) (v := undef) (by kernel_rfl) (by kernel_rfl) (by kernel_rfl) (by kernel_rfl) (fun _ _ _ h => h) ?_ hHeld ?_
  · (intro o ho; simp only [List.getElem?_toArray, List.getElem?_cons_succ, List.getElem?_cons_zero, Option.some.injEq] at ho; subst ho; exact Or.inr ⟨by rfl, rfl⟩)
  try simp only [Act.put, List.setIfInBounds_toArray, List.set_cons_zero, List.set_cons_succ]
  refine take1 (i := 12) (d := some 167) (v := ?_) (by kernel_rfl) (by kernel_rfl) (by kernel_rfl) (by kernel_rfl) (fun _ _ _ h => h) ?_ hHeld ?_
  rotate_left
  · (intro o ho; simp only [List.getElem?_toArray, List.getElem?_cons_succ, List.getElem?_cons_zero, Option.some.injEq] at ho; subst ho; refine Or.inl ⟨by rfl, ?_⟩; intro w hSw; (try dsimp only at hSw); go_simp; try with_reducible rfl)
  try simp only [Act.put, List.setIfInBounds_toArray, List.set_cons_zero, List.set_cons_succ]
  refine take1 (i := 13) (d := some 4) (v := ?_) (by kernel_rfl) (by kernel_rfl) (by kernel_rfl) (by kernel_rfl) (fun _ _ _ h => h) ?_ hHeld ?_
  rotate_left
  · (intro o ho; simp only [List.getElem?_toArray, List.getElem?_cons_succ, List.getElem?_cons_zero, Option.some.injEq] at ho; subst ho; refine Or.inl ⟨by rfl, ?_⟩; intro w hSw; (try dsimp only at hSw); go_simp; try with_reducible rfl)
  try simp only [Act.put, List.setIfInBounds_toArray, List.set_cons_zero, List.set_cons_succ]
  refine wpAnyH_done (by kernel_rfl) ?_ _
  have HFIN := hid (keepS HBh.out hHeld)
  clear hHeld
  go_wp2_with fail
  go_ret
  exact ⟨rfl, HFIN.out⟩

set_option maxRecDepth 100000 in
set_option maxHeartbeats 4000000 in
theorem walk3 (w : World) (a : Option Addr) (n c : Nat) (f : Nat → Int) (a' : Option Addr) (n' c' : Nat) (f' : Nat → Int) (aT aS aL aE : Addr) (hnc : n ≤ c) (hn : n ≤ 9223372036854775807) (h : Seg w a n f) (hf : Byt f) (hnc' : n' ≤ c') (hn' : n' ≤ 9223372036854775807) (h' : Seg w a' n' f') (hf' : Byt f') (hE : Errs w w.heap.size aT aS aL aE) (h100 : n' < 100) (h0 : 0 < n') :
    Calls Tryd.prog 3 #[.slice a n c, .slice a' n' c'] w fun e w' => e = .returned (.bool true) ∧ Below w.heap.size w w' := by
  obtain ⟨i0, hi, hz0, hz1, hz2⟩ := info_parts Tryd.infoByte
  by_cases hl : n ≤ 1048576
  case neg =>
    go_enter Tryd.func3, Tryd.ntmps3
    go_wp2_with fail
    go_ret
    exact ⟨rfl, Below.refl _ _⟩
  have hl' : n' ≤ 1048576 := by omega
  have HH := hid h
  have HH' := hid h'
  have HF := hid hf
  have HF' := hid hf'
  have HE := hid hE
  clear h h' hf hf' hE
  go_enter Tryd.func3, Tryd.ntmps3
  go_wp2_with fail
  refine (rdUv a n c f _ hnc hn HH.out HF.out).mono ?_
  rintro e w1 ⟨V, hV, rfl, b1⟩
  have HB1 := hid b1
  clear b1
  go_wp2_with fail
  refine (rdText a n c f _ hnc hn (HH.out.below HB1.out) HF.out).mono ?_
  rintro e w2 ⟨s, hs, rfl, b2⟩
  have HB2 := hid (keepS HB1.out b2)
  have z2 := HB2.out.size
  clear b2 HB1
  have ho3 : (w2.alloc (.cells #[] 5)).ownsRow w2.heap.size 5 1 (.slice (some ⟨w2.heap.size, 0, none⟩) 0 0) 0 [] := rowE w2 w2.heap.size (Nat.le_refl _)
  have hb3 : Below w2.heap.size w2 (w2.alloc (.cells #[] 5)) := (Below.refl _ _).alloc (Nat.le_refl _) _
  obtain ⟨W3, hW3⟩ : ∃ W3, w2.alloc (.cells #[] 5) = W3 := ⟨_, rfl⟩
  rw [hW3] at ho3 hb3
  have z3 := hb3.size
  have HB3 := hid (keepS HB2.out hb3)
  have Hb3 := hid hb3
  clear hb3
  have HLh : Hid (([] : List Int).length = 0) := hid rfl
  have hhb : Hid (∀ z ∈ ([] : List Int), 0 ≤ z ∧ z < 256) := fun z hz => by cases hz
  have hd100 : (n' : Int) < 100 := by omega
  rcases HH'.out with h00 | ⟨b', off', e', hb', hc'⟩
  · omega
  subst e'
  clear hhb HLh
  obtain ⟨hs, hhs⟩ : ∃ hs : List Int, hs = (List.range n').map f' := ⟨_, rfl⟩
  have HLh : Hid (hs.length = n') := by show _ = _; rw [hhs]; simp
  have hhb : Hid (∀ z ∈ hs, 0 ≤ z ∧ z < 256) := fun z hz => by
    rw [hhs] at hz
    obtain ⟨i, _, rfl⟩ := List.mem_map.1 hz
    exact HF'.out i
  have hnw : ∀ j u, (hs.map (Value.int .u8))[j]? = some u → W3.cell? ((⟨b', off', none⟩ : Addr).add j) = some u := fun j u hj => by
    have hlt : j < n' := by
      have := (List.getElem?_eq_some_iff.1 hj).1
      rw [List.length_map, HLh.out] at this; exact this
    have e : ((⟨b', off', none⟩ : Addr).add j) = ⟨b', off' + j, none⟩ := by
      by_cases h0 : j = 0
      · subst h0; simp [Addr.add]
      · simp [Addr.add, h0]
    rw [e, HB3.out.cell (p := ⟨b', off' + j, none⟩) hb', hc' j hlt]
    rw [hhs] at hj
    simpa [hlt] using hj
  have HNW := hid hnw
  clear hc' hnw hhs
  go_wp2_with (at_builtin; refine wpList_append_own _ rfl _ _ 22 rfl w2.heap.size 5 i0 (.int .u8 0) 1 1 Tryd.underlying22 hi hz0 hz1 hz2 rfl (by decide) _ _ _ rfl ho3 ⟨b', off', none⟩ n' c' (hs.map (Value.int .u8)) rfl (by have := HLh.out; simp <;> omega) HNW.out (one_map hs) ?q3 ?q4 ?q5 ?_)
  case q3 => first | (unfold maxLen; omega) | omega
  case q4 => omega
  case q5 => first | omega | (simp; omega)
  intro v4 w4 hown4 hgr4 _
  have R4 : Bys w4 w2.heap.size v4 hs := ⟨by show World.ownsRow _ _ _ _ _ _ _; rw [HLh.out]; simpa using hown4, hhb.out⟩
  obtain ⟨g4, cap4, e4, _, hghl, hcs4⟩ := Bys.cells R4 (fun e => by have := HLh.out; rw [e] at this; simp at this; omega)
  subst e4
  have HCSH := hid hcs4
  have hb4 : Below w2.heap.size W3 w4 := (Below.refl _ _).grown hgr4 (by omega) (fun k hk => (ho3.lt k hk).1)
  have HB4 := hid (HB3.out.trans (hb4.mono z2))
  have Hq4 := hid (Below.refl w4.heap.size w4)
  rw [HLh.out]
  clear hown4 hgr4 R4 hcs4 hb4 ho3 HB3 Hb3 HNW
  have HUB1 := hid (uvF_byte 9 V (by omega))
  have HUL1 : Hid ((uvF 9 V).length ≤ 1100) := by have := uvF_len 9 V; show _ ≤ _; omega
  have HUN1 : Hid (uvF 9 V ≠ []) := by have := uvF_len 9 V; intro e; rw [e] at this; simp at this
  have HUB2 : Hid (∀ z ∈ textInts s, 0 ≤ z ∧ z < 256) := fun z hz => by
    rcases List.mem_append.1 hz with h | h
    · exact uvF_byte 9 s.size (by omega) z h
    · exact strInts_byte s z h
  have HUL2 : Hid ((textInts s).length ≤ 1100) := by have := uvF_len 9 s.size; show _ ≤ _; rw [textInts, List.length_append, strInts_length]; omega
  have HUN2 : Hid (textInts s ≠ []) := by have := uvF_len 9 s.size; intro e; have h1 : (textInts s).length = 0 := by rw [e]; rfl
                                          rw [textInts, List.length_append] at h1; omega

  have ho51 := rowE w4 w4.heap.size (Nat.le_refl _)
  have hb51 : Below w4.heap.size w4 (w4.alloc (.cells #[] 5)) := (Below.refl _ _).alloc (Nat.le_refl _) _
  obtain ⟨W5, hW5⟩ : ∃ W5, w4.alloc (.cells #[] 5) = W5 := ⟨_, rfl⟩
  have zW5 : W5.heap.size = w4.heap.size + 1 := by rw [← hW5]; simp
  rw [hW5] at ho51 hb51
  have hr1 : W5.ownsRow w4.heap.size 5 1 (.slice (some ⟨w4.heap.size, 0, none⟩) 0 0) 0 [] := ho51
  have HB51 := hid (keepS HB4.out hb51)
  have Hq51 := hid (Hq4.out.trans (hb51.mono Hq4.out.size))
  have HC1 : Hid (∀ j u, (hs.map (Value.int .u8))[j]? = some u → W5.cell? ((⟨g4, 0, none⟩ : Addr).add j) = some u) := fun j u hj => by
    rw [Hq51.out.cell (p := (⟨g4, 0, none⟩ : Addr).add j) (by rw [add_block]; exact hghl)]; exact HCSH.out j u hj
  clear ho51 hb51
  go_wp2_with (at_builtin; refine wpList_append_own _ rfl _ _ 22 rfl w4.heap.size 5 i0 (.int .u8 0) 1 1 Tryd.underlying22 hi hz0 hz1 hz2 rfl (by decide) _ _ _ rfl hr1 ⟨g4, 0, none⟩ n' cap4 (hs.map (Value.int .u8)) rfl (by have := HLh.out; simp <;> omega) HC1.out (one_map hs) ?p13 ?p14 ?p15 ?_)
  case p13 => first | (unfold maxLen; omega) | omega
  case p14 => omega
  case p15 => first | omega | (simp; omega)

  intro v6 w6 hown61 hgr61 _
  have hd61 : w6.ownsRow w4.heap.size 5 1 v6 n' (hs.map (Value.int .u8)) := by simpa using hown61
  have hb61 : Below w4.heap.size W5 w6 := (Below.refl _ _).grown hgr61 (by omega) (fun k hk => (hr1.lt k hk).1)
  have z61 := hb61.size
  have HB61 := hid (HB51.out.trans (hb61.mono (by have := HB4.out.size; omega)))
  have Hq61 := hid (Hq51.out.trans (hb61.mono (by have := Hq4.out.size; omega)))
  have HD61 := hid hd61
  clear hown61 hgr61 hb61 HC1 hr1 hW5 HB51 Hq51 hd61
  go_wp2_with fail
  refine (implUv V _ hV).mono ?_
  rintro e w7 ⟨v7, rfl, o71, b71, z71⟩
  have hby71 : ∀ z ∈ uvF 9 V, 0 ≤ z ∧ z < 256 := HUB1.out
  obtain ⟨g71, cap71, e71, _, hg71, hcs71⟩ := Bys.cells ⟨o71, hby71⟩ HUN1.out
  subst e71
  have hd71 : w7.ownsRow w4.heap.size 5 1 v6 n' (hs.map (Value.int .u8)) := owns_kept HD61.out b71
  have HB71 := hid (keepS HB61.out b71)
  have Hq71 := hid (Hq61.out.trans (b71.mono Hq61.out.size))
  have zz71 := b71.size
  have HC71 := hid hcs71
  clear o71 b71 hcs71 HB61 Hq61 HD61 hby71
  obtain ⟨Lu1, hLu1⟩ : ∃ Lu, (uvF 9 V).length = Lu := ⟨_, rfl⟩
  have HLu1 := hid hLu1
  have hub1 : Lu1 ≤ 1100 := by rw [← hLu1]; exact HUL1.out
  have hup1 : 0 < Lu1 := by
    rcases Nat.eq_zero_or_pos Lu1 with h0 | h0
    · rw [h0] at hLu1; exact absurd (List.length_eq_zero_iff.1 hLu1) HUN1.out
    · exact h0
  rw [hLu1]
  clear hLu1
  go_wp2_with (at_builtin; refine wpList_append_own _ rfl _ _ 22 rfl w4.heap.size 5 i0 (.int .u8 0) 1 1 Tryd.underlying22 hi hz0 hz1 hz2 rfl (by decide) _ _ _ rfl hd71 ⟨g71, 0, none⟩ Lu1 cap71 ((uvF 9 V).map (Value.int .u8)) rfl (by have := HLu1.out; simp <;> omega) HC71.out (one_map _) ?r13 ?r14 ?r15 ?_)
  case r13 => first | (unfold maxLen; omega) | omega
  case r14 => omega
  case r15 => first | omega | (simp; omega)

  intro v8 w8 hown81 hgr81 _
  have hb81 : Below w4.heap.size w7 w8 := (Below.refl _ _).grown hgr81 (by omega) (fun k hk => (hd71.lt k hk).1)
  have R81 : Bys w8 w4.heap.size v8 (hs ++ (uvF 9 V)) := bys_app hhb.out HUB1.out (by rw [HLh.out, HLu1.out]; first | exact hown81 | simpa using hown81)
  have zz81 := hb81.size
  have HB81 := hid (HB71.out.trans (hb81.mono (by have := HB4.out.size; omega)))
  have Hq81 := hid (Hq71.out.trans (hb81.mono (by have := Hq4.out.size; omega)))
  obtain ⟨a81, c81, e81, hnc81, sg81, hlt81⟩ := Bys.seg R81
  subst e81
  obtain ⟨N1, hN1⟩ : ∃ N, (hs ++ (uvF 9 V)).length = N := ⟨_, rfl⟩
  have HN1 : Hid (N1 = n' + Lu1) := by show _ = _; rw [← hN1, List.length_append, HLh.out, HLu1.out]
  have hNb1 : N1 ≤ 1300 := by have := HN1.out; omega
  have HF81 := hid (bytesOf R81.2)
  rw [hN1] at hnc81 sg81 ⊢
  have HS81 := hid sg81
  have HT81 := hid hlt81
  clear hown81 hgr81 hb81 hd71 HB71 Hq71 HC71 R81 sg81 hlt81 hN1 HB4 Hq4

  obtain ⟨m1, hm1⟩ := cnt_ex (fun i => (hs ++ uvF 9 V).getD i 0) N1 n'
  have hat1 : At (fun i => (hs ++ uvF 9 V).getD i 0) n' (uvF 9 V) := by have := at_app hs (uvF 9 V) []; rw [List.append_nil, HLh.out] at this; exact this
  have hg1 : gX (fun i => (hs ++ uvF 9 V).getD i 0) N1 m1 (n' : Int) = (V, ((n' + (uvF 9 V).length : Nat) : Int), 0) := gX_put (p := n') hV hat1 (by rw [HLu1.out, HN1.out] <;> omega) hm1
  have HX1 := hid (implX w.heap.size a81 N1 c81 m1 (n' : Int) (fun i => (hs ++ uvF 9 V).getD i 0) aT aS aL aE w8 (by omega) HF81.out HS81.out (by simpa using hm1) (HE.out.below HB81.out) HB81.out.size)
  rw [HLu1.out] at hg1
  rw [hg1] at HX1
  clear hat1 hm1 hg1
  go_wp2_with fail
  refine HX1.out.mono ?_
  rintro e w9 ⟨rfl, b9⟩
  have z9 := b9.size
  have HB9 := hid (keepS HB81.out b9)
  have Hq9 := hid (Hq81.out.trans (b9.mono Hq81.out.size))
  have hN1e : (n' : Nat) + Lu1 = N1 := HN1.out.symm
  clear b9 HX1 HB81 Hq81 HS81 HT81 HF81

  have ho52 := rowE w9 w9.heap.size (Nat.le_refl _)
  have hb52 : Below w9.heap.size w9 (w9.alloc (.cells #[] 5)) := (Below.refl _ _).alloc (Nat.le_refl _) _
  obtain ⟨Wa, hWa⟩ : ∃ Wa, w9.alloc (.cells #[] 5) = Wa := ⟨_, rfl⟩
  have zWa : Wa.heap.size = w9.heap.size + 1 := by rw [← hWa]; simp
  rw [hWa] at ho52 hb52
  have hr2 : Wa.ownsRow w9.heap.size 5 1 (.slice (some ⟨w9.heap.size, 0, none⟩) 0 0) 0 [] := ho52
  have HB52 := hid (keepS HB9.out hb52)
  have Hq52 := hid (Hq9.out.trans (hb52.mono Hq9.out.size))
  have HC2 : Hid (∀ j u, (hs.map (Value.int .u8))[j]? = some u → Wa.cell? ((⟨g4, 0, none⟩ : Addr).add j) = some u) := fun j u hj => by
    rw [Hq52.out.cell (p := (⟨g4, 0, none⟩ : Addr).add j) (by rw [add_block]; exact hghl)]; exact HCSH.out j u hj
  clear ho52 hb52
  go_wp2_with (at_builtin; refine wpList_append_own _ rfl _ _ 22 rfl w9.heap.size 5 i0 (.int .u8 0) 1 1 Tryd.underlying22 hi hz0 hz1 hz2 rfl (by decide) _ _ _ rfl hr2 ⟨g4, 0, none⟩ n' cap4 (hs.map (Value.int .u8)) rfl (by have := HLh.out; simp <;> omega) HC2.out (one_map hs) ?p23 ?p24 ?p25 ?_)
  case p23 => first | (unfold maxLen; omega) | omega
  case p24 => omega
  case p25 => first | omega | (simp; omega)

  intro va wa hown62 hgr62 _
  have hd62 : wa.ownsRow w9.heap.size 5 1 va n' (hs.map (Value.int .u8)) := by simpa using hown62
  have hb62 : Below w9.heap.size Wa wa := (Below.refl _ _).grown hgr62 (by omega) (fun k hk => (hr2.lt k hk).1)
  have z62 := hb62.size
  have HB62 := hid (HB52.out.trans (hb62.mono (by have := HB9.out.size; omega)))
  have Hq62 := hid (Hq52.out.trans (hb62.mono (by have := Hq9.out.size; omega)))
  have HD62 := hid hd62
  clear hown62 hgr62 hb62 HC2 hr2 hWa HB52 Hq52 hd62
  go_wp2_with fail
  refine (implText s _ (by omega)).mono ?_
  rintro e wb ⟨vb, rfl, o72, b72, z72⟩
  have hby72 : ∀ z ∈ textInts s, 0 ≤ z ∧ z < 256 := HUB2.out
  obtain ⟨g72, cap72, e72, _, hg72, hcs72⟩ := Bys.cells ⟨o72, hby72⟩ HUN2.out
  subst e72
  have hd72 : wb.ownsRow w9.heap.size 5 1 va n' (hs.map (Value.int .u8)) := owns_kept HD62.out b72
  have HB72 := hid (keepS HB62.out b72)
  have Hq72 := hid (Hq62.out.trans (b72.mono Hq62.out.size))
  have zz72 := b72.size
  have HC72 := hid hcs72
  clear o72 b72 hcs72 HB62 Hq62 HD62 hby72
  obtain ⟨Lu2, hLu2⟩ : ∃ Lu, (textInts s).length = Lu := ⟨_, rfl⟩
  have HLu2 := hid hLu2
  have hub2 : Lu2 ≤ 1100 := by rw [← hLu2]; exact HUL2.out
  have hup2 : 0 < Lu2 := by
    rcases Nat.eq_zero_or_pos Lu2 with h0 | h0
    · rw [h0] at hLu2; exact absurd (List.length_eq_zero_iff.1 hLu2) HUN2.out
    · exact h0
  rw [hLu2]
  clear hLu2
  go_wp2_with (at_builtin; refine wpList_append_own _ rfl _ _ 22 rfl w9.heap.size 5 i0 (.int .u8 0) 1 1 Tryd.underlying22 hi hz0 hz1 hz2 rfl (by decide) _ _ _ rfl hd72 ⟨g72, 0, none⟩ Lu2 cap72 ((textInts s).map (Value.int .u8)) rfl (by have := HLu2.out; simp <;> omega) HC72.out (one_map _) ?r23 ?r24 ?r25 ?_)
  case r23 => first | (unfold maxLen; omega) | omega
  case r24 => omega
  case r25 => first | omega | (simp; omega)

  intro vc wc hown82 hgr82 _
  have hb82 : Below w9.heap.size wb wc := (Below.refl _ _).grown hgr82 (by omega) (fun k hk => (hd72.lt k hk).1)
  have R82 : Bys wc w9.heap.size vc (hs ++ (textInts s)) := bys_app hhb.out HUB2.out (by rw [HLh.out, HLu2.out]; first | exact hown82 | simpa using hown82)
  have zz82 := hb82.size
  have HB82 := hid (HB72.out.trans (hb82.mono (by have := HB9.out.size; omega)))
  have Hq82 := hid (Hq72.out.trans (hb82.mono (by have := Hq9.out.size; omega)))
  obtain ⟨a82, c82, e82, hnc82, sg82, hlt82⟩ := Bys.seg R82
  subst e82
  obtain ⟨N2, hN2⟩ : ∃ N, (hs ++ (textInts s)).length = N := ⟨_, rfl⟩
  have HN2 : Hid (N2 = n' + Lu2) := by show _ = _; rw [← hN2, List.length_append, HLh.out, HLu2.out]
  have hNb2 : N2 ≤ 1300 := by have := HN2.out; omega
  have HF82 := hid (bytesOf R82.2)
  rw [hN2] at hnc82 sg82 ⊢
  have HS82 := hid sg82
  have HT82 := hid hlt82
  clear hown82 hgr82 hb82 hd72 HB72 Hq72 HC72 R82 sg82 hlt82 hN2 HB9 Hq9

  obtain ⟨m2, hm2⟩ := cnt_ex (fun i => (hs ++ textInts s).getD i 0) N2 n'
  have hat2 : At (fun i => (hs ++ textInts s).getD i 0) n' (uvF 9 s.size) := by have := at_app hs (uvF 9 s.size) (strInts s); rw [List.append_assoc, HLh.out] at this; exact this
  have hul2 := uvF_len 9 s.size
  have hLt : Lu2 = (uvF 9 s.size).length + s.size := by rw [← HLu2.out, textInts, List.length_append, strInts_length]
  have hg2 := gX_put (p := n') (V := s.size) (by omega) hat2 (by rw [HN2.out]; omega) hm2
  have hst : strF (fun i => (hs ++ textInts s).getD i 0) (n' + (uvF 9 s.size).length) s.size = s := by
    have := str_reads (hs ++ uvF 9 s.size) (strInts s) s rfl
    rw [List.append_assoc, List.length_append, HLh.out] at this
    exact this
  have hok2 : gtX (fun i => (hs ++ textInts s).getD i 0) N2 m2 (n' : Int) (s.size : Int) = (s, ((n' + (uvF 9 s.size).length + s.size : Nat) : Int), 0) := gtX_ok (p := n') hg2 (by rw [HN2.out]; omega) hst
  have hlo2 : gtX (fun i => (hs ++ textInts s).getD i 0) N2 m2 (n' : Int) ((s.size : Int) - 1) = (⟨#[]⟩, (n' : Int), 4) := gtX_long (p := n') hg2
  have hE2 : n' + (uvF 9 s.size).length + s.size = N2 := by rw [HN2.out]; omega
  rw [hE2] at hok2
  have HT1 := hid (implT w.heap.size a82 N2 c82 m2 (n' : Int) (s.size : Int) (fun i => (hs ++ textInts s).getD i 0) aT aS aL aE wc (by omega) hnc82 HF82.out HS82.out HT82.out (by simpa using hm2) (HE.out.below HB82.out) HB82.out.size (Go.WalkArith.wf_i64 (by omega)) (Go.WalkArith.wf_i64 (by omega)))
  rw [hok2] at HT1
  have HT2 : Hid (∀ w', Below wc.heap.size wc w' → Calls Tryd.prog 10 #[.slice a82 N2 c82, .int .i64 (n' : Int), .int .i64 ((s.size : Int) - 1)] w' fun e w'' => e = .returned (.tuple #[.string ⟨#[]⟩, .int .i64 (n' : Int), .int .i64 4]) ∧ Below w'.heap.size w' w'') := fun w' hb => by
    have := implT w.heap.size a82 N2 c82 m2 (n' : Int) ((s.size : Int) - 1) (fun i => (hs ++ textInts s).getD i 0) aT aS aL aE w' (by omega) hnc82 HF82.out (HS82.out.below hb) (fun y hy => Nat.lt_of_lt_of_le (HT82.out y hy) hb.size) (by simpa using hm2) (HE.out.below (keepS HB82.out hb)) (Nat.le_trans HB82.out.size hb.size) (Go.WalkArith.wf_i64 (by omega)) (Go.WalkArith.wf_i64 (by omega))
    rw [hlo2] at this
    exact this
  clear hat2 hm2 hg2 hst hok2 hlo2 hE2 hLt hul2
  go_wp2_with fail
  refine HT1.out.mono ?_
  rintro e wd ⟨rfl, bd⟩
  have zd := bd.size
  have HBd := hid (keepS HB82.out bd)
  have Hbd := hid bd
  clear bd HT1
  go_wp2_with fail
  refine (HT2.out wd Hbd.out).mono ?_
  rintro e we ⟨rfl, be⟩
  have HBe := hid (keepS HBd.out be)
  clear be HT2 HBd Hbd HB82 Hq82 HS82 HT82 HF82
  go_wp2_with fail
  refine (rdGet _ n' c' f' _ hnc' hn' (HH'.out.below HBe.out) HF'.out).mono ?_
  rintro e wf ⟨vr, zs, x, rfl, hzl, hx0, hx1, byr, bf⟩
  have HBf := hid (keepS HBe.out bf)
  obtain ⟨ar, cr, er, hncr, sgr, hltr⟩ := Bys.seg byr
  subst er
  have HFr := hid (bytesOf byr.2)
  have HSr := hid sgr
  obtain ⟨Nr, hNr⟩ : ∃ Nr, zs.length = Nr := ⟨_, rfl⟩
  rw [hNr] at hzl hncr HSr ⊢
  clear bf byr sgr HBe hNr hltr
  obtain ⟨fr, hfr⟩ : ∃ fr : Nat → Int, (fun i => zs.getD i 0) = fr := ⟨_, rfl⟩
  rw [hfr] at HFr HSr
  clear hfr
  obtain ⟨mr, hmr⟩ := cnt_ex fr Nr x.toNat
  have HMr := hid hmr
  have HZ := hid (fun h => gX_zero HFr.out hmr h)
  have HBD := hid (gX_bounds hmr HFr.out (by omega) (by omega) (by omega : x ≤ 9223372036854775807))
  have HP1 := hid (specX ar Nr cr mr x fr wf (by omega) HFr.out HSr.out hmr)
  have HP2 : Hid (∀ w', Below wf.heap.size wf w' → Calls Tryd.prog 8 #[.slice ar Nr cr, .int .i64 x] w' fun e w'' => e = .returned (.tuple #[.int .u64 ((gX fr Nr mr x).1 : Int), .int .i64 (gX fr Nr mr x).2.1, .int .i64 ((gX fr Nr mr x).2.2 : Int)]) ∧ Below w'.heap.size w' w'') := fun w' hb =>
    implX w.heap.size ar Nr cr mr x fr aT aS aL aE w' (by omega) HFr.out (HSr.out.below hb) hmr (HE.out.below (keepS HBf.out hb)) (Nat.le_trans HBf.out.size hb.size)
  clear hmr
  obtain ⟨Vr, hVr⟩ : ∃ Vr, (gX fr Nr mr x).1 = Vr := ⟨_, rfl⟩
  obtain ⟨Ar, hAr⟩ : ∃ Ar, (gX fr Nr mr x).2.1 = Ar := ⟨_, rfl⟩
  obtain ⟨Cr, hCr⟩ : ∃ Cr, (gX fr Nr mr x).2.2 = Cr := ⟨_, rfl⟩
  rw [hVr, hAr, hCr] at HP1 HP2 HZ HBD
  clear hVr hAr hCr
  go_wp2_with fail
  refine HP1.out.mono ?_
  rintro e wg ⟨rfl, bg⟩
  have Hbg := hid bg
  clear bg HP1
  go_wp2_with fail
  refine (HP2.out wg Hbg.out).mono ?_
  rintro e wh ⟨rfl, bh⟩
  have Hbh := hid (keepS Hbg.out bh)
  have HBh := hid (keepS HBf.out Hbh.out)
  clear bh HP2 Hbg
  by_cases hc0 : Cr = 0
  focus
    subst hc0
    obtain ⟨px, hpx, hpn, hV64, hA, hU⟩ := HZ.out rfl
    subst hpx
    obtain ⟨E2, hE2⟩ : ∃ E2 : Nat, E2 = px + mr + 1 := ⟨_, rfl⟩
    rw [← hE2] at hA hpn
    subst hA
    have HE2 := hid hE2
    have HSh := hid (HSr.out.below Hbh.out)
    have hul := uvF_len 9 Vr
    rcases HSh.out with h0 | ⟨br, offr, er, hbr, hcr⟩
    · omega
    subst er
    have HU := hid hU
    have hstr : ∀ w', Below wh.heap.size wh w' → ∀ cap, (convert 22 9 (.slice (some ⟨br, offr + px, none⟩) (E2 - px) cap)).run Tryd.prog w' = .ok (.string (bytesStr (uvF 9 Vr))) w' := fun w' hb cap => by
      have e : E2 - px = mr + 1 := by have := HE2.out; omega
      rw [e]
      have := strF_conv (w := w') (b := br) (off := offr) (p := px) (L := mr + 1) (cap := cap) HFr.out (fun i hi => by rw [hb.cell (p := ⟨br, offr + px + i, none⟩) hbr, Nat.add_assoc]; exact hcr (px + i) (by have := HE2.out; omega))
      rw [strF_bytes, ← HU.out] at this
      exact this
    have HSTR := hid hstr
    have hs0 := hstr wh (Below.refl _ _)
    have hNU : uvF 9 Vr ≠ [] := fun e => by rw [e] at hul; simp at hul
    have hBU := uvF_byte 9 Vr (by omega)
    have hpE : px ≤ E2 := by omega
    have hEc : E2 ≤ cr := by omega
    have hcpx : ¬ cr = px := by omega
    have hi1 : (0 : Int) ≤ (px : Int) := Int.natCast_nonneg _
    have hi2 : (px : Int) ≤ (E2 : Int) := by omega
    have hi3 : (E2 : Int) ≤ (cr : Int) := by omega
    obtain ⟨TT, hTT⟩ : ∃ TT, bytesStr (uvF 9 Vr) = TT := ⟨_, rfl⟩
    rw [hTT] at HSTR hs0
    have HTT := hid hTT
    have HNU := hid hNU
    have HBU := hid hBU
    clear hE2 hcr hU HU hstr hTT hNU hBU HSh HZ HBD
    go_wp2_with fail
    refine wp_region_held_drew (S := fun w' => Below wh.heap.size wh w' ∧ ∀ cap, (convert 22 9 (.slice (some ⟨br, offr + px, none⟩) (E2 - px) cap)).run Tryd.prog w' = .ok (.string TT) w') (by kernel_rfl) ⟨(Below.refl _ _).drew, HSTR.out _ (Below.refl _ _).drew⟩ (fun hHeld => ?_)
    refine take1 (i := 0) (d := some 155) (v := ?_) (by kernel_rfl) (by kernel_rfl) (by kernel_rfl) (by kernel_rfl) (fun _ _ _ h => h) ?_ hHeld ?_
    rotate_left
    · (intro o ho; simp only [List.getElem?_toArray, List.getElem?_cons_succ, List.getElem?_cons_zero, Option.some.injEq] at ho; subst ho; refine Or.inl ⟨by rfl, ?_⟩; intro w hSw; (try dsimp only at hSw); go_simp; try with_reducible rfl)
    try simp only [Act.put, List.setIfInBounds_toArray, List.set_cons_zero, List.set_cons_succ]
    refine take1 (i := 1) (d := some 156) (v := ?_) (by kernel_rfl) (by kernel_rfl) (by kernel_rfl) (by kernel_rfl) (fun _ _ _ h => h) ?_ hHeld ?_
    rotate_left
    · (intro o ho; simp only [List.getElem?_toArray, List.getElem?_cons_succ, List.getElem?_cons_zero, Option.some.injEq] at ho; subst ho; refine Or.inl ⟨by rfl, ?_⟩; intro w hSw; (try dsimp only at hSw); go_simp; try with_reducible rfl)
    try simp only [Act.put, List.setIfInBounds_toArray, List.set_cons_zero, List.set_cons_succ]
    refine take1 (i := 2) (d := some 157) (v := ?_) (by kernel_rfl) (by kernel_rfl) (by kernel_rfl) (by kernel_rfl) (fun _ _ _ h => h) ?_ hHeld ?_
    rotate_left
    · (intro o ho; simp only [List.getElem?_toArray, List.getElem?_cons_succ, List.getElem?_cons_zero, Option.some.injEq] at ho; subst ho; refine Or.inl ⟨by rfl, ?_⟩; intro w hSw; (try dsimp only at hSw); go_simp; try with_reducible rfl)
    try simp only [Act.put, List.setIfInBounds_toArray, List.set_cons_zero, List.set_cons_succ]
    refine take1 (i := 3) (d := some 158) (v := ?_) (by kernel_rfl) (by kernel_rfl) (by kernel_rfl) (by kernel_rfl) (fun _ _ _ h => h) ?_ hHeld ?_
    rotate_left
    · (intro o ho; simp only [List.getElem?_toArray, List.getElem?_cons_succ, List.getElem?_cons_zero, Option.some.injEq] at ho; subst ho; refine Or.inl ⟨by rfl, ?_⟩; intro w hSw; (try dsimp only at hSw); go_simp; try with_reducible rfl)
    try simp only [Act.put, List.setIfInBounds_toArray, List.set_cons_zero, List.set_cons_succ]
    refine take1 (i := 6) (d := some 161) (v := ?_) (by kernel_rfl) (by kernel_rfl) (by kernel_rfl) (by kernel_rfl) (fun _ _ _ h => h) ?_ hHeld ?_
    rotate_left
    · (intro o ho; simp only [List.getElem?_toArray, List.getElem?_cons_succ, List.getElem?_cons_zero, Option.some.injEq] at ho; subst ho; refine Or.inl ⟨by rfl, ?_⟩; intro w hSw; (try dsimp only at hSw); go_simp; try with_reducible rfl)
    try simp only [Act.put, List.setIfInBounds_toArray, List.set_cons_zero, List.set_cons_succ]
    refine take1 (i := 7) (d := some 162) (v := ?_) (by kernel_rfl) (by kernel_rfl) (by kernel_rfl) (by kernel_rfl) (fun _ _ _ h => h) ?_ hHeld ?_
    rotate_left
    · (intro o ho; simp only [List.getElem?_toArray, List.getElem?_cons_succ, List.getElem?_cons_zero, Option.some.injEq] at ho; subst ho; refine Or.inl ⟨by rfl, ?_⟩; intro w hSw; (try dsimp only at hSw); go_simp; try with_reducible rfl)
    try simp only [Act.put, List.setIfInBounds_toArray, List.set_cons_zero, List.set_cons_succ]
    refine take1 (i := 8) (d := some 163) (v := ?_) (by kernel_rfl) (by kernel_rfl) (by kernel_rfl) (by kernel_rfl) (fun _ _ _ h => h) ?_ hHeld ?_
    rotate_left
    · (intro o ho; simp only [List.getElem?_toArray, List.getElem?_cons_succ, List.getElem?_cons_zero, Option.some.injEq] at ho; subst ho; refine Or.inl ⟨by rfl, ?_⟩; intro w hSw; (try dsimp only at hSw); go_simp; try with_reducible rfl)
    try simp only [Act.put, List.setIfInBounds_toArray, List.set_cons_zero, List.set_cons_succ]
    refine take1 (i := 9) (d := some 164) (v := ?_) (by kernel_rfl) (by kernel_rfl) (by kernel_rfl) (by kernel_rfl) (fun _ _ _ h => h) ?_ hHeld ?_
    rotate_left
    · (intro o ho; simp only [List.getElem?_toArray, List.getElem?_cons_succ, List.getElem?_cons_zero, Option.some.injEq] at ho; subst ho; refine Or.inl ⟨by rfl, ?_⟩; intro w hSw; (try dsimp only at hSw); go_simp; try with_reducible rfl)
    try simp only [Act.put, List.setIfInBounds_toArray, List.set_cons_zero, List.set_cons_succ]
    refine take1 (i := 10) (d := some 165) (v := ?_) (by kernel_rfl) (by kernel_rfl) (by kernel_rfl) (by kernel_rfl) (fun _ _ _ h => h) ?_ hHeld ?_
    rotate_left
    · (intro o ho; simp only [List.getElem?_toArray, List.getElem?_cons_succ, List.getElem?_cons_zero, Option.some.injEq] at ho; subst ho; refine Or.inl ⟨by rfl, ?_⟩; intro w hSw; (try dsimp only at hSw); go_simp; try with_reducible rfl)
    try simp only [Act.put, List.setIfInBounds_toArray, List.set_cons_zero, List.set_cons_succ]
    refine call1 (i := 4) (d := some 159) (by kernel_rfl) (by kernel_rfl) ?_
    intro o ho hod K hK; simp only [List.getElem?_toArray, List.getElem?_cons_succ, List.getElem?_cons_zero, Option.some.injEq] at ho; subst ho
    go_simp
    refine (implUv Vr _ hV64).mono ?_
    rintro e wi ⟨vi, rfl, oi, bi, zi⟩
    have hBi := keepS hHeld.1 bi
    have hcvi := strBys ⟨oi, HBU.out⟩ HNU.out
    rw [HTT.out] at hcvi
    refine hK.out _ _ ⟨hBi, HSTR.out _ hBi⟩ (fun hHeld => ?_)
    clear hK K
    try simp only [Act.put, List.setIfInBounds_toArray, List.set_cons_zero, List.set_cons_succ]
    refine call1 (i := 5) (d := some 160) (by kernel_rfl) (by kernel_rfl) ?_
    intro o ho hod K hK; simp only [List.getElem?_toArray, List.getElem?_cons_succ, List.getElem?_cons_zero, Option.some.injEq] at ho; subst ho
    go_simp
    refine hK.out _ _ ⟨hBi, HSTR.out _ hBi⟩ (fun hHeld => ?_)
    clear hK K
    try simp only [Act.put, List.setIfInBounds_toArray, List.set_cons_zero, List.set_cons_succ]
    refine take1 (i := 11) (d := some 166) (v := ?_) (by kernel_rfl) (by kernel_rfl) (by kernel_rfl) (by kernel_rfl) (fun _ _ _ h => h) ?_ hHeld ?_
    rotate_left
    · (intro o ho; simp only [List.getElem?_toArray, List.getElem?_cons_succ, List.getElem?_cons_zero, Option.some.injEq] at ho; subst ho; refine Or.inl ⟨by rfl, ?_⟩; intro w hSw; (try dsimp only at hSw); go_simp; try with_reducible rfl)
    try simp only [Act.put, List.setIfInBounds_toArray, List.set_cons_zero, List.set_cons_succ]
    refine take1 (i := 12) (d := some 167) (v := ?_) (by kernel_rfl) (by kernel_rfl) (by kernel_rfl) (by kernel_rfl) (fun _ _ _ h => h) ?_ hHeld ?_
    rotate_left
    · (intro o ho; simp only [List.getElem?_toArray, List.getElem?_cons_succ, List.getElem?_cons_zero, Option.some.injEq] at ho; subst ho; refine Or.inl ⟨by rfl, ?_⟩; intro w hSw; (try dsimp only at hSw); go_simp; try with_reducible rfl)
    try simp only [Act.put, List.setIfInBounds_toArray, List.set_cons_zero, List.set_cons_succ]
    refine take1 (i := 13) (d := some 4) (v := ?_) (by kernel_rfl) (by kernel_rfl) (by kernel_rfl) (by kernel_rfl) (fun _ _ _ h => h) ?_ hHeld ?_
    rotate_left
    · (intro o ho; simp only [List.getElem?_toArray, List.getElem?_cons_succ, List.getElem?_cons_zero, Option.some.injEq] at ho; subst ho; refine Or.inl ⟨by rfl, ?_⟩; intro w hSw; (try dsimp only at hSw); go_simp; try with_reducible rfl)
    try simp only [Act.put, List.setIfInBounds_toArray, List.set_cons_zero, List.set_cons_succ]
    refine wpAnyH_done (by kernel_rfl) ?_ _
    have HFIN := hid (keepS HBh.out hBi)
    clear hHeld hBi hcvi oi bi
    go_wp2_with fail
    go_ret
    exact ⟨rfl, HFIN.out⟩
  have hcn : ¬ (Cr : Int) = 0 := by omega
  have hcb : ((Cr : Int) == 0) = false := by simpa using hcn
  have hcp : 0 < Cr := by omega
  have hcb2 : ((Cr : Int) != 0) = true := by simp; omega
  have hcb3 : (Cr == 0) = false := by simp; omega
  have hcb4 : (Cr != 0) = true := by simp; omega
  have hcb5 : decide (Cr = 0) = false := by simp; omega
  have hcb6 : decide ((Cr : Int) = 0) = false := by simp; omega
  have hcb7 : ¬ Cr = 0 := hc0
  clear HZ HBD
  go_wp2_with fail
  refine wp_region_held_drew (S := fun w' => Below wh.heap.size wh w') (by kernel_rfl) (Below.refl _ _).drew (fun hHeld => ?_)
  refine take1 (i := 0) (d := some 155) (v := ?_) (by kernel_rfl) (by kernel_rfl) (by kernel_rfl) (by kernel_rfl) (fun _ _ _ h => h) ?_ hHeld ?_
  rotate_left
  · (intro o ho; simp only [List.getElem?_toArray, List.getElem?_cons_succ, List.getElem?_cons_zero, Option.some.injEq] at ho; subst ho; refine Or.inl ⟨by rfl, ?_⟩; intro w hSw; (try dsimp only at hSw); go_simp; try with_reducible rfl)
  try simp only [Act.put, List.setIfInBounds_toArray, List.set_cons_zero, List.set_cons_succ]
  refine take1 (i := 1) (d := some 156) (v := ?_) (by kernel_rfl) (by kernel_rfl) (by kernel_rfl) (by kernel_rfl) (fun _ _ _ h => h) ?_ hHeld ?_
  rotate_left
  · (intro o ho; simp only [List.getElem?_toArray, List.getElem?_cons_succ, List.getElem?_cons_zero, Option.some.injEq] at ho; subst ho; refine Or.inl ⟨by rfl, ?_⟩; intro w hSw; (try dsimp only at hSw); go_simp; try with_reducible rfl)
  try simp only [Act.put, List.setIfInBounds_toArray, List.set_cons_zero, List.set_cons_succ]
  refine take1 (i := 2) (d := some 157) (v := ?_) (by kernel_rfl) (by kernel_rfl) (by kernel_rfl) (by kernel_rfl) (fun _ _ _ h => h) ?_ hHeld ?_
  rotate_left
  · (intro o ho; simp only [List.getElem?_toArray, List.getElem?_cons_succ, List.getElem?_cons_zero, Option.some.injEq] at ho; subst ho; refine Or.inl ⟨by rfl, ?_⟩; intro w hSw; (try dsimp only at hSw); go_simp; try with_reducible rfl)
  try simp only [Act.put, List.setIfInBounds_toArray, List.set_cons_zero, List.set_cons_succ]
  try simp only [hcb, hcb2, hcb3, hcb4, hcb5, hcb6, Bool.not_false, Bool.not_true]
  refine take1 (i := 3) (d := some 158) (v := undef) (by kernel_rfl) (by kernel_rfl) (by kernel_rfl) (by kernel_rfl) (fun _ _ _ h => h) ?_ hHeld ?_
  · (intro o ho; simp only [List.getElem?_toArray, List.getElem?_cons_succ, List.getElem?_cons_zero, Option.some.injEq] at ho; subst ho; exact Or.inr ⟨by rfl, rfl⟩)
  try simp only [Act.put, List.setIfInBounds_toArray, List.set_cons_zero, List.set_cons_succ]
  refine take1 (i := 4) (d := some 159) (v := undef) (by kernel_rfl) (by kernel_rfl) (by kernel_rfl) (by kernel_rfl) (fun _ _ _ h => h) ?_ hHeld ?_
  · (intro o ho; simp only [List.getElem?_toArray, List.getElem?_cons_succ, List.getElem?_cons_zero, Option.some.injEq] at ho; subst ho; exact Or.inr ⟨by rfl, rfl⟩)
  try simp only [Act.put, List.setIfInBounds_toArray, List.set_cons_zero, List.set_cons_succ]
  refine take1 (i := 5) (d := some 160) (v := undef) (by kernel_rfl) (by kernel_rfl) (by kernel_rfl) (by kernel_rfl) (fun _ _ _ h => h) ?_ hHeld ?_
  · (intro o ho; simp only [List.getElem?_toArray, List.getElem?_cons_succ, List.getElem?_cons_zero, Option.some.injEq] at ho; subst ho; exact Or.inr ⟨by rfl, rfl⟩)
  try simp only [Act.put, List.setIfInBounds_toArray, List.set_cons_zero, List.set_cons_succ]
  refine take1 (i := 6) (d := some 161) (v := undef) (by kernel_rfl) (by kernel_rfl) (by kernel_rfl) (by kernel_rfl) (fun _ _ _ h => h) ?_ hHeld ?_
  · (intro o ho; simp only [List.getElem?_toArray, List.getElem?_cons_succ, List.getElem?_cons_zero, Option.some.injEq] at ho; subst ho; exact Or.inr ⟨by rfl, rfl⟩)
  try simp only [Act.put, List.setIfInBounds_toArray, List.set_cons_zero, List.set_cons_succ]
  refine take1 (i := 7) (d := some 162) (v := undef) (by kernel_rfl) (by kernel_rfl) (by kernel_rfl) (by kernel_rfl) (fun _ _ _ h => h) ?_ hHeld ?_
  · (intro o ho; simp only [List.getElem?_toArray, List.getElem?_cons_succ, List.getElem?_cons_zero, Option.some.injEq] at ho; subst ho; exact Or.inr ⟨by rfl, rfl⟩)
  try simp only [Act.put, List.setIfInBounds_toArray, List.set_cons_zero, List.set_cons_succ]
  refine take1 (i := 8) (d := some 163) (v := undef) (by kernel_rfl) (by kernel_rfl) (by kernel_rfl) (by kernel_rfl) (fun _ _ _ h => h) ?_ hHeld ?_
  · (intro o ho; simp only [List.getElem?_toArray, List.getElem?_cons_succ, List.getElem?_cons_zero, Option.some.injEq] at ho; subst ho; exact Or.inr ⟨by rfl, rfl⟩)
  try simp only [Act.put, List.setIfInBounds_toArray, List.set_cons_zero, List.set_cons_succ]
  refine take1 (i := 9) (d := some 164) (v := undef) (by kernel_rfl) (by kernel_rfl) (by kernel_rfl) (by kernel_rfl) (fun _ _ _ h => h) ?_ hHeld ?_
  · (intro o ho; simp only [List.getElem?_toArray, List.getElem?_cons_succ, List.getElem?_cons_zero, Option.some.injEq] at ho; subst ho; exact Or.inr ⟨by rfl, rfl⟩)
  try simp only [Act.put, List.setIfInBounds_toArray, List.set_cons_zero, List.set_cons_succ]
  refine take1 (i := 10) (d := some 165) (v := undef) (by kernel_rfl) (by kernel_rfl) (by kernel_rfl) (by kernel_rfl) (fun _ _ _ h => h) ?_ hHeld ?_
  · (intro o ho; simp only [List.getElem?_toArray, List.getElem?_cons_succ, List.getElem?_cons_zero, Option.some.injEq] at ho; subst ho; exact Or.inr ⟨by rfl, rfl⟩)
  try simp only [Act.put, List.setIfInBounds_toArray, List.set_cons_zero, List.set_cons_succ]
  refine take1 (i := 11) (d := some 166) (v := undef) (by kernel_rfl) (by kernel_rfl) (by kernel_rfl) (by kernel_rfl) (fun _ _ _ h => h) ?_ hHeld ?_
  · (intro o ho; simp only [List.getElem?_toArray, List.getElem?_cons_succ, List.getElem?_cons_zero, Option.some.injEq] at ho; subst ho; exact Or.inr ⟨by rfl, rfl⟩)
  try simp only [Act.put, List.setIfInBounds_toArray, List.set_cons_zero, List.set_cons_succ]
  refine take1 (i := 12) (d := some 167) (v := ?_) (by kernel_rfl) (by kernel_rfl) (by kernel_rfl) (by kernel_rfl) (fun _ _ _ h => h) ?_ hHeld ?_
  rotate_left
  · (intro o ho; simp only [List.getElem?_toArray, List.getElem?_cons_succ, List.getElem?_cons_zero, Option.some.injEq] at ho; subst ho; refine Or.inl ⟨by rfl, ?_⟩; intro w hSw; (try dsimp only at hSw); go_simp; try with_reducible rfl)
  try simp only [Act.put, List.setIfInBounds_toArray, List.set_cons_zero, List.set_cons_succ]
  refine take1 (i := 13) (d := some 4) (v := ?_) (by kernel_rfl) (by kernel_rfl) (by kernel_rfl) (by kernel_rfl) (fun _ _ _ h => h) ?_ hHeld ?_
  rotate_left
  · (intro o ho; simp only [List.getElem?_toArray, List.getElem?_cons_succ, List.getElem?_cons_zero, Option.some.injEq] at ho; subst ho; refine Or.inl ⟨by rfl, ?_⟩; intro w hSw; (try dsimp only at hSw); go_simp; try with_reducible rfl)
  try simp only [Act.put, List.setIfInBounds_toArray, List.set_cons_zero, List.set_cons_succ]
  refine wpAnyH_done (by kernel_rfl) ?_ _
  have HFIN := hid (keepS HBh.out hHeld)
  clear hHeld
  go_wp2_with fail
  go_ret
  exact ⟨rfl, HFIN.out⟩

theorem walk (w : World) (a : Option Addr) (n c : Nat) (f : Nat → Int) (a' : Option Addr) (n' c' : Nat) (f' : Nat → Int) (aT aS aL aE : Addr) (hnc : n ≤ c) (hn : n ≤ 9223372036854775807) (h : Seg w a n f) (hf : Byt f) (hnc' : n' ≤ c') (hn' : n' ≤ 9223372036854775807) (h' : Seg w a' n' f') (hf' : Byt f') (hE : Errs w w.heap.size aT aS aL aE) :
    Calls Tryd.prog 3 #[.slice a n c, .slice a' n' c'] w fun e w' => e = .returned (.bool true) ∧ Below w.heap.size w w' := by
  by_cases h100 : n' < 100
  · rcases Nat.eq_zero_or_pos n' with h0 | h0
    · exact walk2 w a n c f a' n' c' f' aT aS aL aE hnc hn h hf hnc' hn' h' hf' hE h0
    · exact walk3 w a n c f a' n' c' f' aT aS aL aE hnc hn h hf hnc' hn' h' hf' hE h100 h0
  · exact walk1 w a n c f a' n' c' f' aT aS aL aE hnc hn h hf hnc' hn' h' hf' hE h100

abbrev sE : ByteArray := { data := #[116, 104, 101, 32, 98, 121, 116, 101, 115, 32, 101, 110, 100, 32, 116, 111, 111, 32, 101, 97, 114, 108, 121] }
abbrev sT : ByteArray := { data := #[116, 104, 101, 32, 116, 101, 110, 116, 104, 32, 98, 121, 116, 101, 32, 105, 115, 32, 97, 98, 111, 118, 101, 32, 49] }
abbrev sS : ByteArray := { data := #[116, 104, 101, 32, 118, 97, 114, 105, 110, 116, 32, 99, 111, 117, 108, 100, 32, 98, 101, 32, 115, 104, 111, 114, 116, 101, 114] }
abbrev sL : ByteArray := { data := #[116, 104, 101, 32, 108, 101, 110, 103, 116, 104, 32, 105, 115, 32, 97, 98, 111, 118, 101, 32, 116, 104, 101, 32, 108, 105, 109, 105, 116] }
noncomputable def low : Nat := (World.holding Tryd.prog default ⟨#[], #[], []⟩).heap.size
def setAt (h : Array Obj) (g : Nat) (v : Value) : Array Obj := h.modify g fun
  | .cells _ t frozen => .cells #[v] t frozen
  | o => o
noncomputable def laidWorld (os : Os) : World :=
  let w0 := World.holding Tryd.prog os ⟨#[.cells #[.string sE] 156, .cells #[.string sT] 156, .cells #[.string sS] 156, .cells #[.string sL] 156], #[], []⟩
  { w0 with heap := setAt (setAt (setAt (setAt (setAt w0.heap 4 (.iface 119 (.agg #[.pointer (some ⟨5, 54, none⟩)]))) 3 (.iface 136 (.pointer (some ⟨low, 0, none⟩)))) 0 (.iface 136 (.pointer (some ⟨low + 1, 0, none⟩)))) 1 (.iface 136 (.pointer (some ⟨low + 2, 0, none⟩)))) 2 (.iface 136 (.pointer (some ⟨low + 3, 0, none⟩))) }
theorem laid_met (os : Os) (args : Array Value) : laidMetH Tryd.prog Rows.fnNumbersRow.laid ((laidWorld os).forCall (fun _ _ => 0) ⟨#[], args, []⟩).memory :=
  laidMetH_of_parts (laidMet_of_run' 8 (by kernel_rfl) (by kernel_rfl)) (by kernel_rfl)
set_option maxRecDepth 100000 in
theorem contract (H : Type) (enc : TypeId × Value → H) (W : World) (base : Nat) (args : Array Value) (ds gs : List (DataW H)) (before : List MemPlace)
    (hval0 : ∀ (j : Nat) t v, Tryd.f3.params[j]? = some t → args[j]? = some v → Value.okWide Tryd.prog W .any base t v)
    (hW : DataW.Whole enc Tryd.prog Tryd.f3.params.toList Rows.fnNumbersSpec.vars false W args.toList ds gs before) (hL : laidMetH Tryd.prog Rows.fnNumbersRow.laid W) :
    Calls Tryd.prog 3 args W fun e W' => ∃ v, e = .returned v ∧ Rows.fnNumbersSpec.post enc Tryd.prog Tryd.f3 false true false false W args v W' := by
  have hval : ∀ (j : Nat) t v, Tryd.f3.params[j]? = some t → args[j]? = some v → Value.okWide Tryd.prog W .any base t v := hval0
  have hW' := hW
  obtain ⟨p, q, hA0, hV0, rfl, hfz, hnd⟩ := hW
  have hA : DataW.TrodAll enc Tryd.prog W 0 (fun _ => true) true Tryd.f3.params.toList args.toList ds p := hA0
  have hV : DataW.TrodVars enc Tryd.prog W (fun _ => true) ["loop.example/s02772/impl.errEnds", "loop.example/s02772/impl.errTenth", "loop.example/s02772/impl.errShorter", "loop.example/s02772/impl.errTooLong"] gs q := hV0
  rw [Tryd.params3] at hA hval
  obtain ⟨v0, vs0, d0, ds0, p0, q0, hargs, rfl, rfl, h0, r0⟩ := trodAll_cons hA
  obtain ⟨v1, vs1, d1, ds1, p1, q1, rfl, rfl, rfl, h1, r1⟩ := trodAll_cons r0
  obtain ⟨rfl, rfl, rfl⟩ := trodAll_nil r1
  obtain rfl : args = #[v0, v1] := by cases args; simp_all
  obtain ⟨aT, aS, aL, aE, hE, vE, vT, vS, vL⟩ := errs_of_laid hL
  have vr : ∀ {X : World}, Below W.heap.size W X → ∀ sp : Nat → Bool, DataW.TrodVars enc Tryd.prog X sp ["loop.example/s02772/impl.errEnds", "loop.example/s02772/impl.errTenth", "loop.example/s02772/impl.errShorter", "loop.example/s02772/impl.errTooLong"] [tok enc (.iface 136 (.pointer (some aE))), tok enc (.iface 136 (.pointer (some aT))), tok enc (.iface 136 (.pointer (some aS))), tok enc (.iface 136 (.pointer (some aL)))] [.cell 3 0, .cell 0 0, .cell 1 0, .cell 2 0] :=
    fun hb sp => vars_read4 enc Tryd.underlying54 La.gE La.tE (var?_below vE hb) trivial La.gT La.tT (var?_below vT hb) trivial La.gS La.tS (var?_below vS hb) trivial La.gL La.tL (var?_below vL hb) trivial sp
  obtain ⟨rfl, rfl⟩ := hV.unique (vr (Below.refl _ _) _)
  have k0 := h0
  have lt0 : ∀ x ∈ p0, x.block < W.heap.size := by obtain ⟨m, hm⟩ := k0; exact DataW.trod_lt m _ _ _ hm
  have k1 := h1
  have lt1 : ∀ x ∈ p1, x.block < W.heap.size := by obtain ⟨m, hm⟩ := k1; exact DataW.trod_lt m _ _ _ hm
  obtain ⟨a, n, c, f, rfl, hn, s, hf, hnc⟩ := openBytesC (hval 0 22 v0 rfl rfl) h0
  obtain ⟨a', n', c', f', rfl, hn', s', hf', hnc'⟩ := openBytesC (hval 1 22 v1 rfl rfl) h1
  clear hA0 hV0 hval0
  refine (walk W a n c f a' n' c' f' aT aS aL aE hnc hn s hf hnc' hn' s' hf' hE).mono fun e W' ⟨he, bel⟩ => ?_
  subst he
  exact ⟨_, rfl, _, _, _, [], _, _, hW', trodAll_mk1 (shut_bool Tryd.underlying4 _), (trodAll_cons_mk (Below.trod La.laidOut (by kernel_rfl) (of_decide_eq_true (by kernel_rfl)) k0 bel lt0) (trodAll_cons_mk (Below.trod La.laidOut (by kernel_rfl) (of_decide_eq_true (by kernel_rfl)) k1 bel lt1) trodAll_mk0)), vr bel _, bel.frame _, fun h => by cases h⟩

set_option maxRecDepth 100000 in
theorem lifted (os : Os) (started : os.Started) (H : Type) (enc : TypeId × Value → H) (F : Stop.Interp) :
    ReturnsInHanded {} Tryd.checked os 3 .any ((OpenSpec.ofChange Rows.fnNumbersSpec).preRow enc Tryd.prog Tryd.f3 Rows.fnNumbersRow.domain false Rows.fnNumbersRow.laid) (((OpenSpec.ofChange Rows.fnNumbersSpec).at F).post enc Tryd.prog Tryd.f3 false true false false) := by
  refine returnsInHanded_of_row (C := Tryd.checked) (s := OpenSpec.ofChange Rows.fnNumbersSpec) La.own started (by kernel_rfl) Tryd.func3
    (witness_row_at (enc := enc) (C := Tryd.checked) false (laidWorld os) #[.slice none 0 0, .slice none 0 0] rfl (by kernel_rfl) (by kernel_rfl) (by kernel_rfl)
      (OpenSpec.preRow_of_B rfl 8 (by kernel_rfl) (by kernel_rfl) (laid_met os _))) ?_
  intro W base args ds gs before hval hW _ _ _ hL _ _
  exact contract H enc W base args ds gs before hval hW hL

theorem said : Rows.FnNumbersSaid :=
  OpenClaim.holds_of_cond 3 Tryd.f3 rfl rfl rfl rfl rfl rfl rfl ⟨rfl, rfl, rfl, rfl, rfl⟩ rfl rfl rfl rfl rfl (by kernel_rfl) Tryd.func3 (by kernel_rfl)
    (of_decide_eq_true (by kernel_rfl)) (by unfold Func.isWrapper; first | (rw [if_pos (by decide +kernel)]; kernel_rfl) | (rw [if_neg (by decide +kernel)]; exact ⟨rfl, rfl⟩))
    (fun os started H enc _ F => by rw [OpenClaim.pre_eq_preRow]; exact lifted os started H enc F)

theorem plain (f : FuncId) (fn : Func) (hf : Tryd.pinned.checked.prog.funcNamed "loop.example/s02772/laws.FnNumbers" = some f) (hfn : Tryd.pinned.checked.prog.funcs[f]? = some fn) :
    true = Tryd.pinned.checked.prog.looks [] ∧ ∀ (j : Nat) t, fn.params[j]? = some t → Tryd.pinned.checked.prog.wantsStandIn t = false := by
  obtain rfl : f = 3 := Option.some.inj ((show Tryd.prog.funcNamed "loop.example/s02772/laws.FnNumbers" = some 3 by kernel_rfl).symm.trans hf) |>.symm
  obtain rfl : fn = Tryd.f3 := (Option.some.inj (Tryd.func3.symm.trans hfn)).symm
  refine ⟨by kernel_rfl, fun j t ht => ?_⟩
  rw [Tryd.params3] at ht
  have hm := Array.mem_of_getElem? ht
  simp at hm
  subst hm
  exact (show Tryd.prog.wantsStandIn 22 = false by kernel_rfl)
end Go.Proofs.YtbimcammjohaoacDoor.fnNumbers

namespace Go.Proofs.YtbimcammjohaoacDoor
theorem numbersCard : Rows.FnNumbersCardSaid :=
  Claim7.holds_tied_plain_at .later [] _ _ _ _ fnNumbers.said (fun _ h => by cases h) (by kernel_rfl) (fun _ h => by cases h) fnNumbers_row_tie rfl ⟨rfl, rfl⟩ (by kernel_rfl) rfl fnNumbers.plain (by kernel_rfl)
#print axioms numbersCard
end Go.Proofs.YtbimcammjohaoacDoor
