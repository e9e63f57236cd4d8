import Derived.Test.YthkppnmnjboiaaaDoorFu
namespace Go.Proofs.YthkppnmnjboiaaaDoor
open Go.ChangeShapes Go.WideShapes Go.ChangeAt Go.RowKit
set_option linter.unusedVariables false
set_option linter.unusedSimpArgs false
variable {W0 wr w' : World} {cb N p c : Nat} {F : Nat → Int} {R : Nat × Nat × List (Int × List Int)} {a : Option Addr} {fv : Value} {l : List Fx}

set_option maxRecDepth 100000 in
set_option maxHeartbeats 1000000 in
theorem is0 (b : Addr) (w : World) : Calls Tryd.prog 39 #[.nilIface, .iface 103 (.pointer (some b))] w fun e w' => e = .returned (.bool false) ∧ w' = w := by
  have hn := fun (tp : TypeId) (v : Value) => run_eql_iface_nil_left (P := Tryd.prog) (w := w) tp v Tryd.underlying71
  go_enter Tryd.func39, Tryd.ntmps39
  go_wp2
  go_ret
  exact ⟨rfl, rfl⟩

theorem lenX_in {F : Nat → Int} {N p : Nat} (h : p + 3 < N) : lenX (shF F p) (N - p) = (guV F N (p + 3) (cM (shF F p) (N - p) 3), ((guA F N (p + 3) (cM (shF F p) (N - p) 3) - p : Nat) : Int), guC F N (p + 3) (cM (shF F p) (N - p) 3)) := by
  unfold lenX
  have := gX_in (f := shF F p) (n := N - p) (m := cM (shF F p) (N - p) 3) (p := 3) (by omega)
  rw [show ((3 : Nat) : Int) = 3 from rfl] at this
  rw [this, guV_sh (by omega), guC_sh (by omega), guA_sh (by omega), Nat.add_sub_cancel_left]
theorem lenX_out {F : Nat → Int} {N p : Nat} (h : N = p + 3) : (lenX (shF F p) (N - p)).2.2 = 1 := by
  unfold lenX
  rw [gX_out (.inr (by omega))]

set_option maxRecDepth 100000 in
set_option maxHeartbeats 2000000 in
theorem rdLengthC (aT aS aL aE : Addr) (hn : N ≤ 4194304) (hF : Byt F) (hI : DcI W0 wr cb F N R p a c fv l) (h1 : wr.cell? ⟨cb, 1, none⟩ = some (.int .i64 ((p + 3 : Nat) : Int))) (h3 : wr.cell? ⟨cb, 3, none⟩ = some (.int .i64 (F (p + 2)))) (hp : p + 2 < N) (h0 : F p = 199) (h0' : F (p + 1) = 1) (hk : 1 ≤ F (p + 2)) (hk' : F (p + 2) ≤ 3) (hB : Bts W0 cb a N F) (hE : Errs W0 cb aT aS aL aE) :
    Calls Tryd.prog 37 #[.pointer (some ⟨cb, 0, none⟩)] wr fun e w' => (e = .returned .nilFunc ∧ DcE W0 w' cb N R a c fv l) ∨
      (e = .returned (.func (.func 40) #[] #[]) ∧ DcI W0 w' cb F N R p a c fv l ∧ ∃ at' ln : Nat, headF (shF F p) (N - p) = (0, at', ln) ∧ at' ≠ 0 ∧ w'.cell? ⟨cb, 1, none⟩ = some (.int .i64 ((p + at' : Nat) : Int)) ∧ w'.cell? ⟨cb, 3, none⟩ = some (.int .i64 (F (p + 2))) ∧ w'.cell? ⟨cb, 4, none⟩ = some (.int .i64 (ln : Int))) := by
  have HI := hid hI
  have HC : Hid (Cur wr cb a N c ((p + 3 : Nat) : Int)) := hid ⟨hI.c0, h1, hI.zz 1⟩
  have HK := hid h3
  have HH := hid (hd_4 (g := shF F p) (n := N - p) (by omega) (by simpa [shF] using h0) (by simpa [shF] using h0') hk hk')
  have hle := hI.le
  have HEr := hid (hE.below hI.bel)
  clear hI h1 h3 h0 h0' hE hk hk'
  by_cases hx : N ≤ p + 3
  · have HS := hid (firstF_of (x := 0) (by rw [HH.out, if_pos (lenX_out (by omega))]))
    have HU := hid (uvOut cb cb a N c ((p + 3 : Nat) : Int) aT aS aL aE wr hn HC.out (.inr (by omega)) HEr.out)
    have gE := HEr.out.gE
    go_enter Tryd.func37, Tryd.ntmps37
    go_wp2_with fail
    refine HU.out.mono ?_
    rintro e w1 ⟨pb, rfl, hpb, pl, b1⟩
    have HI1 := hid ((HI.out.below b1).stop HS.out)
    have gE1 := ((HEr.out.below (b1.mono (Nat.le_of_lt HI.out.lt))).gE)
    have HIs := hid (is1_same pb aE w1 pl.2.1)
    clear gE b1 pl HU
    go_wp2_with fail
    refine HIs.out.mono ?_
    rintro e w2 ⟨rfl, rfl⟩
    go_wp2_with fail
    go_ret
    exact .inl ⟨rfl, HI1.out⟩
  · have hx' : p + 3 < N := by omega
    rcases hB with h0 | ⟨b, rfl, hb, hc⟩
    · omega
    have HX : Hid (∀ i, i < N → wr.cell? ⟨b, 0 + i, none⟩ = some (.int .u8 (F i))) := hid (fun i hi => by rw [Nat.zero_add]; exact (HI.out.bel.cell (p := ⟨b, i, none⟩) hb).trans (hc i hi))
    have hlt := HI.out.lt
    have HU := hid (uvIn2 cb cb b 0 N c (p + 3) (cM (shF F p) (N - p) 3) F aT aS aL aE wr hn hF HC.out hx' (cnt_sh (cM_spec _ _ _)) HEr.out (Nat.le_refl _) (by omega) (by omega) HX.out)
    have hL := lenX_in (F := F) hx'
    have hA : guC F N (p + 3) (cM (shF F p) (N - p) 3) = 0 → guA F N (p + 3) (cM (shF F p) (N - p) 3) = p + 3 + cM (shF F p) (N - p) 3 + 1 := fun h => by unfold guA; rw [if_pos h]
    have hV := (gX_bounds (f := F) (n := N) (m := cM (shF F p) (N - p) 3) (x := ((p + 3 : Nat) : Int)) (by rw [Int.toNat_natCast]; exact cnt_sh (q := 3) (cM_spec (shF F p) (N - p) 3)) hF (by omega) (by omega) (by omega)).2.1
    rw [gX_in hx'] at hV
    have hC3 : guC F N (p + 3) (cM (shF F p) (N - p) 3) ≤ 3 := hV
    clear hV
    obtain ⟨C, hC⟩ : ∃ C, guC F N (p + 3) (cM (shF F p) (N - p) 3) = C := ⟨_, rfl⟩
    obtain ⟨V, hV⟩ : ∃ V, guV F N (p + 3) (cM (shF F p) (N - p) 3) = V := ⟨_, rfl⟩
    obtain ⟨A, hAA⟩ : ∃ A, guA F N (p + 3) (cM (shF F p) (N - p) 3) = A := ⟨_, rfl⟩
    rw [hC, hV, hAA] at HU hL
    rw [hC, hAA] at hA
    rw [hC] at hC3
    have HL := hid hL
    clear hc HX HC hL hC hV hAA
    rw [HL.out] at HH
    dsimp only at HH
    by_cases hc0 : C = 0
    · subst hc0
      have hA' := hA rfl
      clear hA
      have HU' : Hid (Calls Tryd.prog 38 #[.pointer (some ⟨cb, 0, none⟩)] wr fun e w' => e = .returned (.tuple #[.int .u64 (V : Int), .nilIface]) ∧ wr.grownBy w' (some cb) ∧ Kp wr w' cb ∧ Cur w' cb (some ⟨b, 0, none⟩) N c (A : Int)) := hid (HU.out.mono (by
        rintro e w' ⟨g, k, ⟨_, h2, h3⟩ | ⟨h2, _⟩⟩
        · exact ⟨h2, g, k, h3⟩
        · exact absurd rfl h2))
      clear HU
      by_cases hv : 4000 < V
      · have HS := hid (firstF_of (x := 4) (by rw [HH.out, if_neg (by omega), if_pos (.inr hv)]))
        have hd : decide ((4000 : Int) < (V : Int)) = true := by simp; omega
        go_enter Tryd.func37, Tryd.ntmps37
        go_wp2_with fail
        refine HU'.out.mono ?_
        rintro e w1 ⟨rfl, g1, kp1, cu1⟩
        have HI1 := hid (HI.out.kp g1 kp1)
        have gE1 := ((HEr.out.below ((Below.refl cb wr).grown g1 (Nat.le_of_lt hlt) (fun k e => by injection e with e; omega))).gE)
        clear g1 kp1 cu1 HU'
        go_wp2_with fail
        refine (is0 aE _).mono ?_
        rintro e w2 ⟨rfl, rfl⟩
        go_wp2_with fail
        refine (failC cb 4 _ _ HI1.out.c5 (HI1.out.zz 5)).mono ?_
        rintro e w3 ⟨rfl, rfl⟩
        have H := hid (HI1.out.fail (x := 4) HS.out)
        go_wp2_with fail
        go_ret
        exact .inl ⟨rfl, H.out⟩
      · have HS : Hid (headF (shF F p) (N - p) = (0, A - p, V)) := hid (by rw [HH.out, if_neg (by omega), if_neg (by omega)]; rfl)
        have hd : decide ((4000 : Int) < (V : Int)) = false := by simp; omega
        have ew : IntKind.i64.wrap (V : Int) = (V : Int) := by rw [IntKind.wrap_i64]; omega
        go_enter Tryd.func37, Tryd.ntmps37
        go_wp2_with fail
        refine HU'.out.mono ?_
        rintro e w1 ⟨rfl, g1, kp1, cu1⟩
        have HI1 := hid (HI.out.kp g1 kp1)
        have gE1 := ((HEr.out.below ((Below.refl cb wr).grown g1 (Nat.le_of_lt hlt) (fun k e => by injection e with e; omega))).gE)
        have HK1 := hid ((kp1.1 3 (by omega)).trans HK.out)
        have HC1 := hid cu1.2.1
        clear g1 kp1 cu1 HU'
        go_wp2_with fail
        refine (is0 aE _).mono ?_
        rintro e w2 ⟨rfl, rfl⟩
        obtain ⟨u4, k4⟩ := HI1.out.c4
        have z4 := HI1.out.zz 4
        go_wp2_with fail
        go_ret
        refine .inr ⟨rfl, HI1.out.set 4 (.inr rfl) _, A - p, V, HS.out, by omega, ?_, (cell_set_ne (by omega)).trans HK1.out, World.cell?_setCell_same _ _ _ k4⟩
        rw [show p + (A - p) = A by omega]
        exact (cell_set_ne (by omega)).trans HC1.out
    · have HU' : Hid (Calls Tryd.prog 38 #[.pointer (some ⟨cb, 0, none⟩)] wr fun e w' => ∃ pb, e = .returned (.tuple #[.int .u64 0, .iface 82 (.pointer (some ⟨pb, 0, none⟩))]) ∧ wr.grownBy w' (some cb) ∧ Kp wr w' cb ∧ w'.cell? ⟨pb, 2, none⟩ = some (.iface 103 (.pointer (some (adr aT aS aE C))))) := hid (HU.out.mono (by
        rintro e w' ⟨g, k, ⟨h2, _⟩ | ⟨_, pb, h2, _, h3, _⟩⟩
        · exact absurd h2 hc0
        · exact ⟨pb, h2, g, k, h3.2.1⟩))
      clear HU hA
      by_cases hc1 : C = 1
      · subst hc1
        have HS := hid (firstF_of (x := 0) (by rw [HH.out, if_pos rfl]))
        go_enter Tryd.func37, Tryd.ntmps37
        go_wp2_with fail
        refine HU'.out.mono ?_
        rintro e w1 ⟨pb, rfl, g1, kp1, cu1⟩
        have HI1 := hid ((HI.out.kp g1 kp1).stop HS.out)
        have gE1 := ((HEr.out.below ((Below.refl cb wr).grown g1 (Nat.le_of_lt hlt) (fun k e => by injection e with e; omega))).gE)
        have HIs := hid (is1_same pb aE w1 (by simpa [adr] using cu1))
        clear g1 kp1 cu1 HU'
        go_wp2_with fail
        refine HIs.out.mono ?_
        rintro e w2 ⟨rfl, rfl⟩
        go_wp2_with fail
        go_ret
        exact .inl ⟨rfl, HI1.out⟩
      · have HS := hid (firstF_of (x := 4) (by rw [HH.out, if_neg (by omega), if_pos (.inl hc0)]))
        go_enter Tryd.func37, Tryd.ntmps37
        go_wp2_with fail
        refine HU'.out.mono ?_
        rintro e w1 ⟨pb, rfl, g1, kp1, cu1⟩
        have HI1 := hid (HI.out.kp g1 kp1)
        have hE1 := HEr.out.below ((Below.refl cb wr).grown g1 (Nat.le_of_lt hlt) (fun k e => by injection e with e; omega))
        have HIs : Hid (Calls Tryd.prog 39 #[.iface 82 (.pointer (some ⟨pb, 0, none⟩)), .iface 103 (.pointer (some aE))] w1 fun e w' => e = .returned (.bool false) ∧ w' = w1) := by
          obtain ⟨cE, tE, bE⟩ := hE1.bE
          by_cases hc2 : C = 2
          · subst hc2
            obtain ⟨cT, tT, bT⟩ := hE1.bT
            exact hid (is1_other pb aT aE cT cE tT tE w1 (by simpa [adr] using cu1) hE1.nTE bT bE)
          · obtain rfl : C = 3 := by omega
            obtain ⟨cS, tS, bS⟩ := hE1.bS
            exact hid (is1_other pb aS aE cS cE tS tE w1 (by simpa [adr] using cu1) hE1.nSE bS bE)
        have gE1 := hE1.gE
        clear g1 kp1 cu1 HU' hE1
        go_wp2_with fail
        refine HIs.out.mono ?_
        rintro e w2 ⟨rfl, rfl⟩
        go_wp2_with fail
        refine (failC cb 4 _ _ HI1.out.c5 (HI1.out.zz 5)).mono ?_
        rintro e w3 ⟨rfl, rfl⟩
        have H := hid (HI1.out.fail (x := 4) HS.out)
        go_wp2_with fail
        go_ret
        exact .inl ⟨rfl, H.out⟩
end Go.Proofs.YthkppnmnjboiaaaDoor
