/- Line by line (layer 6): the walk of the law. -/
import Derived.Test.YtgkfnplgldigbaaDoorAsW
import Derived.Test.YtgkfnplgldigbaaDoorAsG
import Derived.Test.YtgkfnplgldigbaaDoorAsL
import Derived.Test.YtgkfnplgldigbaaDoorPuB
import Derived.Test.YtgkfnplgldigbaaDoorWdK
import Derived.Deep.RegionHeld3
import Derived.BigQuiet
namespace Go.Proofs.YtgkfnplgldigbaaDoor.asmSizes
open Go.ChangeShapes Go.WideShapes Go.ChangeAt Go.RowKit
open Go.Proofs.YtgkfnplgldigbaaDoor.st Go.Proofs.YtgkfnplgldigbaaDoor.wd Go.Proofs.YtgkfnplgldigbaaDoor.asm
open Go.Proofs.YtgkfnplgldigbaaDoor.pr (PM OP Sm)
set_option linter.unusedVariables false
set_option linter.unusedSimpArgs false
/-- where a function's lines begin. -/
def pos (L : List (List pr.I4)) (k : Nat) : Nat := 1 + ((L.take k).map fnW).flatten.length
theorem pos_zero (L : List (List pr.I4)) : pos L 0 = 1 := rfl
theorem pos_next (L : List (List pr.I4)) (k : Nat) (hk : k < L.length) : pos L (k + 1) = pos L k + 1 + (L.getD k []).length := by
  unfold pos
  rw [take_fn L k hk, List.length_append, List.length_cons, List.length_map]
  omega
theorem pos_all (m : Int) (L : List (List pr.I4)) : pos L L.length = (wrt (m, L)).length := by
  unfold pos wrt
  rw [List.take_length, List.length_cons]
  dsimp only
  omega
theorem wrt_split (m : Int) (L : List (List pr.I4)) (k : Nat) (hk : k < L.length) : ∃ rest, wrt (m, L) = (memL m :: ((L.take k).map fnW).flatten) ++ (fnW (L.getD k []) ++ rest) := by
  refine ⟨((L.drop (k + 1)).map fnW).flatten, ?_⟩
  have e : L = L.take k ++ (L.getD k [] :: L.drop (k + 1)) := by
    have : L.getD k [] = L[k] := by rw [List.getD_eq_getElem?_getD, List.getElem?_eq_getElem hk]; rfl
    rw [this, ← List.drop_eq_getElem_cons hk, List.take_append_drop]
  unfold wrt
  dsimp only
  conv => lhs; rw [e]
  rw [List.map_append, List.flatten_append, List.map_cons, List.flatten_cons, List.cons_append]
theorem get_mid (A F R : List (List UInt8)) (i : Nat) (hi : i < F.length) : (A ++ (F ++ R)).getD (A.length + i) [] = F.getD i [] := by
  rw [List.getD_eq_getElem?_getD, List.getElem?_append_right (by omega), show A.length + i - A.length = i by omega, List.getElem?_append_left hi, ← List.getD_eq_getElem?_getD]
theorem wrt_fun (m : Int) (L : List (List pr.I4)) (k : Nat) (hk : k < L.length) : (wrt (m, L)).getD (pos L k) [] = wFun ∧ pos L k < (wrt (m, L)).length := by
  obtain ⟨rest, e⟩ := wrt_split m L k hk
  have hl : (memL m :: ((L.take k).map fnW).flatten).length = pos L k := by unfold pos; rw [List.length_cons]; omega
  have h := get_mid (memL m :: ((L.take k).map fnW).flatten) (fnW (L.getD k [])) rest 0 (by simp [fnW])
  rw [e]
  rw [hl, Nat.add_zero] at h
  refine ⟨h, ?_⟩
  rw [List.length_append, hl, List.length_append]
  simp [fnW]
  omega
theorem wrt_line (m : Int) (L : List (List pr.I4)) (k j : Nat) (hk : k < L.length) (hj : j < (L.getD k []).length) : (wrt (m, L)).getD (pos L k + 1 + j) [] = lineV ((L.getD k []).getD j pr.d4) ∧ pos L k + 1 + j < (wrt (m, L)).length := by
  obtain ⟨rest, e⟩ := wrt_split m L k hk
  have hl : (memL m :: ((L.take k).map fnW).flatten).length = pos L k := by unfold pos; rw [List.length_cons]; omega
  have hf : (fnW (L.getD k [])).length = (L.getD k []).length + 1 := by simp [fnW]
  have h := get_mid (memL m :: ((L.take k).map fnW).flatten) (fnW (L.getD k [])) rest (j + 1) (by omega)
  rw [e]
  rw [hl, show pos L k + (j + 1) = pos L k + 1 + j by omega] at h
  refine ⟨h.trans ?_, ?_⟩
  · obtain ⟨cl, hcl⟩ : ∃ cl, L.getD k [] = cl := ⟨_, rfl⟩
    rw [hcl] at hj ⊢
    unfold fnW
    rw [List.getD_cons_succ, List.getD_eq_getElem?_getD, List.getElem?_map, List.getElem?_eq_getElem hj, List.getD_eq_getElem?_getD, List.getElem?_eq_getElem hj]
    rfl
  · rw [List.length_append, hl, List.length_append, hf]
    omega
set_option maxRecDepth 20000 in
set_option maxHeartbeats 4000000 in
theorem walk (m0 : Int) (a0 : Option Addr) (n0 c0 : Nat) (L0 : List (List pr.I4)) (w : World) (w0 : PM w (.slice a0 n0 c0) L0) (hNM : ins.NM w ∧ wd.NM w) :
    Calls Tryd.prog 6 #[.agg #[.int .i64 m0, .slice a0 n0 c0]] w fun e w' => e = .returned (.bool true) ∧ Below w.heap.size w w' := by
  obtain ⟨hN, hM⟩ := hNM
  obtain ⟨W0, hW0⟩ : ∃ W0, w.alloc (.cells #[.int .i64 m0, .slice a0 n0 c0] 32) = W0 := ⟨_, rfl⟩
  have k0 : W0.heap[w.heap.size]? = some (.cells #[.int .i64 m0, .slice a0 n0 c0] 32 (0, 0)) := by rw [← hW0]; exact heap_new w _ _
  have b0 : Below w.heap.size w W0 := by rw [← hW0]; exact (Below.refl _ _).alloc (Nat.le_refl _) _
  have CW := Lib.hid (works06 W0 (hN.below b0) (hM.below b0))
  have HW0 := Lib.hid hW0
  have HK0 := Lib.hid k0
  have HB0 := Lib.hid b0
  have HN := Lib.hid hN
  have HM := Lib.hid hM
  have HPM := Lib.hid w0
  have HNL := Lib.hid (show n0 = L0.length from w0.len.1)
  have CG := Lib.hid (fun w h => pr.great_v m0 a0 n0 c0 L0 w h)
  have CO := Lib.hid (fun w h hS => pr.own_v m0 a0 n0 c0 L0 w h hS)
  have CT := Lib.hid (fun a n c w h hN hM => text_v m0 a n c L0 w h hN hM)
  have CP := Lib.hid (fun a n c w h => pr.pput_any m0 a n c L0 w h)
  obtain ⟨T, hT⟩ : ∃ T, textV (m0, L0) = T := ⟨_, rfl⟩
  obtain ⟨ec, hec⟩ : ∃ e, pr.prE m0 L0 = e := ⟨_, rfl⟩
  obtain ⟨A, hA⟩ : ∃ A, pr.prS m0 L0 = A := ⟨_, rfl⟩
  rw [hT, hec] at CT
  rw [hec, hA] at CP
  have hTl : T.length ≤ 41821 := by rw [← hT]; exact textV_len _
  have HRD : Hid (ec = 0 → readV T = ((m0, L0), 0) ∧ linV T = wrt (m0, L0) ∧ (∀ c ∈ L0, ∀ x ∈ c, chk x = 0) ∧ 0 ≤ m0 ∧ m0 ≤ 256 ∧ (wrt (m0, L0)).length ≤ 3217 ∧ L0.length ≤ 16 ∧ (∀ k, k < L0.length → (L0.getD k []).length ≤ 200)) := Lib.hid (by
    intro h1
    rw [← hT]
    have h2 : pr.prE m0 L0 = 0 := by rw [hec]; exact h1
    exact ⟨read_text (p := (m0, L0)) h2, lin_wrt (p := (m0, L0)) h2, pr_chk h2, (pr_mem h2).1, (pr_mem h2).2, cnt_wrt (p := (m0, L0)) h2, (pr.cntE_0 (pr.prE_0 h2).1).2.2.2, fun k hk => (pr.lenE_0 (pr.fnE_0 (pr.fnR_0 (pr.prE_0 h2).2 k hk)).1).2⟩)
  have HTE : Hid (ec ≠ 0 → T = []) := Lib.hid (fun h => by rw [← hT]; exact if_neg (by rw [hec]; exact h))
  clear hW0 k0 b0 hN hM w0 hT hec hA
  go_enter Tryd.func6, Tryd.ntmps6
  go_wp2_with fail
  rw [HW0.out]
  refine CW.out.mono ?_
  rintro e w1 ⟨rfl, hb1⟩
  have hk1 := kb HK0.out hb1
  have HB1 := Lib.hid (tr3 HB0.out hb1)
  have x0 : w1.cell? ⟨w.heap.size, 0, none⟩ = some (.int .i64 m0) := cel hk1 0
  have x1 : w1.cell? ⟨w.heap.size, 1, none⟩ = some (.slice a0 n0 c0) := cel hk1 1
  have HK1 := Lib.hid hk1
  clear hb1 hk1 CW HK0 HB0 HW0
  go_wp2_with fail
  refine (CG.out w1 (HPM.out.below HB1.out)).mono ?_
  rintro e w2 ⟨hor, hb2⟩
  have hk2 := kb HK1.out hb2
  have HB2 := Lib.hid (tr3 HB1.out hb2)
  have z0 : w2.cell? ⟨w.heap.size, 0, none⟩ = some (.int .i64 m0) := cel hk2 0
  have z1 : w2.cell? ⟨w.heap.size, 1, none⟩ = some (.slice a0 n0 c0) := cel hk2 1
  have HK2 := Lib.hid hk2
  clear hb2 hk2 CG x0 x1 HK1 HB1
  rcases hor with rfl | ⟨rfl, hsm⟩
  · go_wp2_with fail
    go_ret
    exact ⟨rfl, HB2.out⟩
  · have HSM := Lib.hid hsm
    clear hsm
    go_wp2_with fail
    refine (CO.out w2 (HPM.out.below HB2.out) HSM.out).mono ?_
    rintro e w3 ⟨ov, rows, rfl, hop, hb3⟩
    have hpm3 := hop.pm
    obtain ⟨oa, oc, rfl, _⟩ := hpm3.form
    have HB3 := Lib.hid (tr3 HB2.out hb3)
    have HK3 := Lib.hid (kb HK2.out hb3)
    have C3 := Lib.hid (CT.out oa L0.length oc w3 hpm3 (HN.out.below HB3.out) (HM.out.below HB3.out))
    clear hop hb3 hpm3 CT z0 z1 HK2 HB2
    go_wp2_with fail
    refine C3.out.mono ?_
    rintro e w4 ⟨rfl, hb4⟩
    have HB4 := Lib.hid (tr3 HB3.out hb4)
    have hk4 := kb HK3.out hb4
    have HK4 := Lib.hid hk4
    have x0 : w4.cell? ⟨w.heap.size, 0, none⟩ = some (.int .i64 m0) := cel hk4 0
    have x1 : w4.cell? ⟨w.heap.size, 1, none⟩ = some (.slice a0 n0 c0) := cel hk4 1
    clear hb4 hk4 C3 HK3 HB3
    go_wp2_with fail
    refine (CO.out w4 (HPM.out.below HB4.out) HSM.out).mono ?_
    rintro e w5 ⟨ov, rows2, rfl, hop, hb5⟩
    have hpm5 := hop.pm
    obtain ⟨oa2, oc2, rfl, _⟩ := hpm5.form
    have HB5 := Lib.hid (tr3 HB4.out hb5)
    have HK5 := Lib.hid (kb HK4.out hb5)
    have C5 := Lib.hid (CP.out oa2 L0.length oc2 w5 hpm5)
    clear hop hb5 hpm5 CO x0 x1 HK4 HB4
    go_wp2_with fail
    refine C5.out.mono ?_
    rintro e w6 ⟨rfl, hb6⟩
    have HB6 := Lib.hid (tr3 HB5.out hb6)
    have HK6 := Lib.hid (kb HK5.out hb6)
    clear hb6 C5 HK5 HB5
    by_cases he : ec = 0
    · subst he
      obtain ⟨hrd, hlin, hck, hm0, hm1, hcw, hl16, hl200⟩ := HRD.out rfl
      have hn16 : n0 ≤ 16 := by rw [HNL.out]; exact hl16
      have HL2 := Lib.hid hl200
      clear hl16 hl200
      have HRDT := Lib.hid hrd
      have CL := Lib.hid (rlines_v T w6 (by omega))
      rw [hlin] at CL
      clear hrd hlin HRD HTE
      have HCK := Lib.hid hck
      clear hck
      go_wp2_with fail
      refine CL.out.mono ?_
      rintro e w7 ⟨lv, rfl, hsv, hb7⟩
      obtain ⟨la, lc, rfl, hlc, _⟩ := RV.form hsv
      obtain ⟨bl, ol, rfl, hbl, _⟩ := SV.at hsv 0 (by unfold wrt; simp)
      have HB7 := Lib.hid (tr3 HB6.out hb7)
      have hk7 := kb HK6.out hb7
      have HK7 := Lib.hid hk7
      have HSV := Lib.hid hsv
      obtain ⟨N, hNl⟩ : ∃ N, (wrt (m0, L0)).length = N := ⟨_, rfl⟩
      rw [hNl] at HSV hlc hcw ⊢
      have HNN := Lib.hid hNl
      have HSB : Hid (Below w7.heap.size w7 w7) := Lib.hid (Below.refl _ _)
      have hp0 : Hid (pos L0 0 = 1) := Lib.hid rfl
      clear hsv hb7 CL HK6 HB6 hk7 hNl
      go_wp2_with fail
      go_loopw [8, 9] (fun tv iv wr => ∃ k at_ : Nat, tv = .int .i64 (at_ : Int) ∧ iv = .int .i64 (k : Int) ∧ k ≤ n0 ∧ Hid (pos L0 k = at_) ∧ Hid (Below w7.heap.size w7 wr)) (fun _ iv _ => n0 - (RowKit.intOf iv).toNat)
      case atStart => exact ⟨0, 1, rfl, rfl, by omega, hp0, HSB⟩
      case round =>
        clear hp0 HSB
        obtain ⟨k, at_, rfl, rfl, hk, HAT, HB⟩ := hrel
        have HBw := Lib.hid (tr3 HB7.out HB.out)
        have hkr := kb HK7.out HB.out
        have hsvr := HSV.out.below HB.out
        have hN1 : 0 < N := by rw [← HNN.out]; unfold wrt; simp
        have hblr : bl < wr.heap.size := Nat.lt_of_lt_of_le hbl HB.out.size
        have hnr : w.heap.size < wr.heap.size := (Array.getElem?_eq_some_iff.1 hkr).1
        have x1 : wr.cell? ⟨w.heap.size, 1, none⟩ = some (.slice a0 n0 c0) := cel hkr 1
        by_cases hlt : k < n0
        · have hki : (k : Int) < (n0 : Int) := by omega
          have hkd : decide ((k : Int) < (n0 : Int)) = true := decide_eq_true hki
          obtain ⟨b', o, ai, ci, rfl, hb', hz0, hrow0⟩ := HPM.out.row k hlt
          have hkl : k < L0.length := by rw [← HNL.out]; exact hlt
          obtain ⟨hfu, hfl⟩ := wrt_fun m0 L0 k hkl
          rw [HAT.out, HNN.out] at hfl
          rw [HAT.out] at hfu
          obtain ⟨b3, o3, e3, _, hc0⟩ := SV.at hsvr at_ hfl
          simp only [Option.some.injEq, Addr.mk.injEq] at e3
          obtain ⟨rfl, rfl, _⟩ := e3
          rw [hfu, show wFun = [102, 117, 110, 99, 116, 105, 111, 110] from rfl] at hc0
          have hai : (at_ : Int) < (N : Int) := by omega
          have had : decide ((N : Int) ≤ (at_ : Int)) = false := decide_eq_false (by omega)
          have han : ¬ (N : Int) ≤ (at_ : Int) := by omega
          have hpn := pos_next L0 k hkl
          have hq2 := HL2.out k hkl
          have hwl := wrt_line m0 L0 k
          have hck := fun j (hj : j < (L0.getD k []).length) => HCK.out (L0.getD k []) (by rw [List.getD_eq_getElem?_getD, List.getElem?_eq_getElem hkl]; exact List.getElem_mem hkl) ((L0.getD k []).getD j pr.d4) (by rw [List.getD_eq_getElem?_getD (l := L0.getD k []), List.getElem?_eq_getElem hj]; exact List.getElem_mem hj)
          obtain ⟨cl, hcl⟩ : ∃ cl, L0.getD k [] = cl := ⟨_, rfl⟩
          rw [hcl] at hz0 hrow0 hpn hwl hck hq2
          obtain ⟨q, hq⟩ : ∃ q, cl.length = q := ⟨_, rfl⟩
          rw [hq] at hz0 hrow0 hpn hwl hck hq2
          rw [HAT.out, HNN.out] at hwl
          rw [HAT.out] at hpn
          have HROW := Lib.hid hrow0
          have HZ := Lib.hid hz0
          have HWL := Lib.hid (fun j (hj : j < q) => hwl j hkl hj)
          have HCJ := Lib.hid hck
          have HPN := Lib.hid hpn
          have hA0 : Hid (at_ + 1 = at_ + 1 + 0) := Lib.hid rfl
          clear hz0 hrow0 hpn hwl hck hcl hq hkl hfu hkr hsvr HBw
          go_wp2_with fail
          go_loopw [8, 10] (fun tv jv wr2 => ∃ j at2 : Nat, tv = .int .i64 (at2 : Int) ∧ jv = .int .i64 (j : Int) ∧ j ≤ q ∧ Hid (at2 = at_ + 1 + j) ∧ Hid (Below w7.heap.size w7 wr2)) (fun _ jv _ => q - (RowKit.intOf jv).toNat)
          case atStart => exact ⟨0, at_ + 1, by go_num, rfl, by omega, Lib.hid (by omega), HB⟩
          case round =>
            clear hA0 hc0 x1 hblr hnr HB
            obtain ⟨j, at2, rfl, rfl, hj, HA2, HB⟩ := hrel
            have HBx := Lib.hid (tr3 HB7.out HB.out)
            have hkr := kb HK7.out HB.out
            have x1 : wr.cell? ⟨w.heap.size, 1, none⟩ = some (.slice (some ⟨b', o, none⟩) n0 c0) := cel hkr 1
            have hz := kc HZ.out HBx.out
            have hb2' : b' < wr.heap.size := Nat.lt_of_lt_of_le hb' HBx.out.size
            have hblr : bl < wr.heap.size := Nat.lt_of_lt_of_le hbl HB.out.size
            have hnr : w.heap.size < wr.heap.size := (Array.getElem?_eq_some_iff.1 hkr).1
            by_cases hjl : j < q
            · have hji : (j : Int) < (q : Int) := by omega
              have hjd : decide ((j : Int) < (q : Int)) = true := decide_eq_true hji
              obtain ⟨b2, o2, rfl, hb2, d0, d1, d2, d3⟩ := pr.RV.four (HROW.out.below HBx.out) j hjl
              obtain ⟨hwl, hwn⟩ := HWL.out j hjl
              rw [← HA2.out] at hwl hwn
              obtain ⟨b3, o3, e3, _, hc0⟩ := SV.at (HSV.out.below HB.out) at2 hwn
              simp only [Option.some.injEq, Addr.mk.injEq] at e3
              obtain ⟨rfl, rfl, _⟩ := e3
              have hcx := HCJ.out j hjl
              rw [hwl] at hc0
              obtain ⟨⟨x0, x1', x2, x3⟩, hx⟩ : ∃ x, cl.getD j pr.d4 = x := ⟨_, rfl⟩
              rw [hx] at d0 d1 d2 d3 hcx hc0
              dsimp only at d0 d1 d2 d3
              obtain ⟨i1, i2, i3⟩ := chk_64 hcx
              have CLn := Lib.hid (fun w' (hb : Below wr.heap.size wr w') => line_v x0 x1' x2 x3 w' i1 i2 i3 (HN.out.below (tr3 HBx.out hb)) (HM.out.below (tr3 HBx.out hb)))
              obtain ⟨U, hU⟩ : ∃ U, lineV (x0, x1', x2, x3) = U := ⟨_, rfl⟩
              rw [hU] at CLn hc0
              have hai2 : (at2 : Int) < (N : Int) := by omega
              have had2 : decide ((N : Int) ≤ (at2 : Int)) = false := decide_eq_false (by omega)
              have han2 : ¬ (N : Int) ≤ (at2 : Int) := by omega
              have hanN : ¬ N ≤ at2 := by omega
              have hadN : decide (N ≤ at2) = false := decide_eq_false hanN
              have hUU : (U != U) = false := by simp
              have HSF : Hid (∀ w' : World, Below wr.heap.size wr w' → w'.cell? ⟨bl, ol + at2, none⟩ = some (.string ⟨U.toArray⟩) ∧ w'.cell? ⟨w.heap.size, 1, none⟩ = some (.slice (some ⟨b', o, none⟩) n0 c0) ∧ w'.cell? ⟨b', o + k, none⟩ = some (.slice (some ⟨b2, o2, none⟩) q ci) ∧ w'.cell? ⟨b2, o2 + j * 4, none⟩ = some (.int .i64 x0) ∧ w'.cell? ⟨b2, o2 + j * 4 + 1, none⟩ = some (.int .i64 x1') ∧ w'.cell? ⟨b2, o2 + j * 4 + 2, none⟩ = some (.int .i64 x2) ∧ w'.cell? ⟨b2, o2 + j * 4 + 3, none⟩ = some (.int .i64 x3)) := Lib.hid fun w' hb => ⟨kc hc0 hb, kc x1 hb, kc hz hb, kc d0 hb, kc d1 hb, kc d2 hb, kc d3 hb⟩
              have HBB := Lib.hid (fun w' (hb : Below wr.heap.size wr w') => tr3 HB.out hb)
              clear hx hcx i1 i2 i3 hU hwl hwn hkr HBx HB
              go_wp2_with fail
              go_region_held3 (fun w' : World => w'.cell? ⟨bl, ol + at2, none⟩ = some (.string ⟨U.toArray⟩) ∧ w'.cell? ⟨w.heap.size, 1, none⟩ = some (.slice (some ⟨b', o, none⟩) n0 c0) ∧ w'.cell? ⟨b', o + k, none⟩ = some (.slice (some ⟨b2, o2, none⟩) q ci) ∧ w'.cell? ⟨b2, o2 + j * 4, none⟩ = some (.int .i64 x0) ∧ w'.cell? ⟨b2, o2 + j * 4 + 1, none⟩ = some (.int .i64 x1') ∧ w'.cell? ⟨b2, o2 + j * 4 + 2, none⟩ = some (.int .i64 x2) ∧ w'.cell? ⟨b2, o2 + j * 4 + 3, none⟩ = some (.int .i64 x3)) (first | (with_reducible assumption) | exact HSF.out _ hb9 | (refine HSF.out _ ?_; go_grown; done))
                ((go_at_call 10; (refine (CLn.out _ (by go_grown)).mono ?_); rintro e w5 ⟨rfl, hb5⟩; have hb9 : Below wr.heap.size wr w5 := Below.trans (by go_grown) (hb5.mono (by go_grown))))
              have HB9 := Lib.hid (HBB.out _ hb9)
              have HA3 : Hid (at2 + 1 = at_ + 1 + (j + 1)) := Lib.hid (by have := HA2.out; omega)
              clear hb5 hb9 HSF CLn HBB
              go_wp2_with fail
              go_roundw
              case rel => exact ⟨j + 1, at2 + 1, by go_num, by go_num, by omega, HA3, HB9⟩
              case measure => first | (simp [RowKit.intOf]; done) | (simp [RowKit.intOf]; omega)
            · obtain rfl : j = q := by omega
              have hji : ¬ (j : Int) < (j : Int) := by omega
              have hjd : decide ((j : Int) < (j : Int)) = false := decide_eq_false hji
              have HATN : Hid (pos L0 (k + 1) = at2) := Lib.hid (by rw [HPN.out, HA2.out])
              clear hkr HBx
              go_wp2_with fail
              go_roundw
              case rel => exact ⟨k + 1, at2, rfl, by go_num, by omega, HATN, HB⟩
              case measure => first | (simp [RowKit.intOf]; done) | (simp [RowKit.intOf]; omega)
        · obtain rfl : k = n0 := by omega
          have hki : ¬ (k : Int) < (k : Int) := by omega
          have hkd : decide ((k : Int) < (k : Int)) = false := decide_eq_false hki
          have hatN : at_ = N := by rw [← HAT.out, HNL.out, pos_all m0 L0, HNN.out]
          subst hatN
          have hml : (wrt (m0, L0)).getD 0 [] = memL m0 := rfl
          have hI : I64 m0 := by unfold I64; omega
          obtain ⟨E, hE⟩ : ∃ E, Lib.itoa m0 = E := ⟨_, rfl⟩
          have hEl : E.length ≤ 20 := by rw [← hE]; exact itoa_len hI
          have hj1 : (⟨#[109, 101, 109, 111, 114, 121, 32]⟩ : ByteArray) ++ ⟨E.toArray⟩ = ⟨(memL m0).toArray⟩ := by
            unfold memL
            rw [hE, join_two, Lib.join_one]
            exact str_join [109, 101, 109, 111, 114, 121, 32] E
          have COf := Lib.hid (fun w' => rof_v m0 w' hI)
          rw [hE] at COf
          obtain ⟨ML, hML⟩ : ∃ ML, memL m0 = ML := ⟨_, rfl⟩
          rw [hML] at hj1 hml
          have HML := Lib.hid hml
          have hsz : ¬ 9223372036854775807 < 7 + E.length := by omega
          have hMM : (ML == ML) = true := by simp
          have hAA : (A == A) = true := by simp
          have CR := read_v wr T (HN.out.below HBw.out) (HM.out.below HBw.out) (by omega)
          rw [HRDT.out] at CR
          replace CR := Lib.hid CR
          have HKR := Lib.hid hkr
          clear hml hI hE hML hkr hsvr HAT HCK HL2
          go_wp2_with fail
          refine CR.out.mono ?_
          rintro e w8 ⟨x, rfl, ⟨v, rfl, hpm⟩, hb8⟩
          dsimp only at hpm ⊢
          obtain ⟨va, vc, rfl, _⟩ := hpm.form
          obtain ⟨W8, hW8⟩ : ∃ W8, w8.alloc (.cells #[.int .i64 m0, .slice va L0.length vc] 32) = W8 := ⟨_, rfl⟩
          have k8 : W8.heap[w8.heap.size]? = some (.cells #[.int .i64 m0, .slice va L0.length vc] 32 (0, 0)) := by rw [← hW8]; exact heap_new w8 _ _
          have b8 : Below w8.heap.size w8 W8 := by rw [← hW8]; exact (Below.refl _ _).alloc (Nat.le_refl _) _
          have hB8 := tr3 HB.out (tr3 hb8 b8)
          have HB8 := Lib.hid hB8
          have C9 := CP.out va L0.length vc W8 (hpm.below b8)
          rw [← hW8] at C9
          replace C9 := Lib.hid C9
          have HW8 := Lib.hid hW8
          have HK8 := Lib.hid (kb HKR.out (tr3 hb8 b8))
          clear hb8 k8 b8 hB8 hW8 hpm CR HKR HBw x1 HB
          go_wp2_with fail
          refine C9.out.mono ?_
          rw [HW8.out]
          rintro e w9 ⟨rfl, hb9⟩
          have hB9 := tr3 HB8.out hb9
          have hk9 := kb HK8.out hb9
          obtain ⟨b3, o3, e3, _, hc0⟩ := SV.at (HSV.out.below hB9) 0 hN1
          simp only [Option.some.injEq, Addr.mk.injEq] at e3
          obtain ⟨rfl, rfl, _⟩ := e3
          rw [HML.out, Nat.add_zero] at hc0
          have x0 : w9.cell? ⟨w.heap.size, 0, none⟩ = some (.int .i64 m0) := cel hk9 0
          have HSF : Hid (∀ w' : World, Below w9.heap.size w9 w' → w'.cell? ⟨bl, ol, none⟩ = some (.string ⟨ML.toArray⟩) ∧ w'.cell? ⟨w.heap.size, 0, none⟩ = some (.int .i64 m0)) := Lib.hid fun w' hb => ⟨kc hc0 hb, kc x0 hb⟩
          have HBB := Lib.hid (fun w' (hb : Below w9.heap.size w9 w') => tr3 HB7.out (tr3 hB9 hb))
          have hN1i : (0 : Int) < (at_ : Int) := by omega
          clear hb9 hB9 hk9 C9 HB8 HK8 HW8 CP HML
          go_wp2_with fail
          go_region_held3 (fun w' : World => w'.cell? ⟨bl, ol, none⟩ = some (.string ⟨ML.toArray⟩) ∧ w'.cell? ⟨w.heap.size, 0, none⟩ = some (.int .i64 m0)) (first | (with_reducible assumption) | exact HSF.out _ hb11 | (refine HSF.out _ ?_; go_grown; done))
            ((go_at_call 20; (refine (COf.out _).mono ?_); rintro e w10 ⟨rfl, hb10⟩; have hb11 : Below w9.heap.size w9 w10 := Below.trans (by go_grown) (hb10.mono (by go_grown))))
          have HB11 := Lib.hid (HBB.out _ hb11)
          clear hb10 hb11 HSF COf HBB
          go_wp2_with fail
          go_ret
          exact ⟨rfl, HB11.out⟩
    · have hcb : ((ec : Int) != 0) = true := by rw [bne, beq_eq_false_iff_ne.2 he]; rfl
      have hee : (ec == ec) = true := by simp
      obtain rfl := HTE.out he
      clear HRD HTE
      go_wp2_with fail
      go_ret
      exact ⟨rfl, HB6.out⟩
end Go.Proofs.YtgkfnplgldigbaaDoor.asmSizes
