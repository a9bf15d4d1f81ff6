/- The look at workers and deques (layer 37). -/
import Derived.Test.YtpflimnngilhnaaAuB
namespace Go.Proofs.Ytpflimnngilhnaa.au
open Go.ChangeShapes Go.WideShapes Go.ChangeAt Go.RowKit
open Go.Proofs.Ytpflimnngilhnaa.rh
set_option linter.unusedVariables false
set_option linter.unusedSimpArgs false
def enV (p : Int × Int) : List Value := [.int .i64 p.1, .int .i64 p.2, .int .i64 0, .int .i64 0]
theorem recV : Rec 4 enV := ⟨by omega, fun _ => rfl, fun x u hu => by simp [enV] at hu; rcases hu with rfl | rfl | rfl <;> rfl⟩
def snN (vs : List (Int × Int)) : Nat → List Int
  | 0 => []
  | k + 1 => sn2 (snN vs k) (vs.getD k (0, 0)).2
def vR (ks : List Int) (vs : List (Int × Int)) : Nat → Int
  | 0 => 0
  | k + 1 => if vR ks vs k = 0 then vwE ks (snN vs k) (vs.getD k (0, 0)).1 (vs.getD k (0, 0)).2 else vR ks vs k
theorem vR_stay (ks : List Int) (vs : List (Int × Int)) (k m : Nat) (h : k ≤ m) (hk : vR ks vs k ≠ 0) : vR ks vs m = vR ks vs k := by
  induction m with
  | zero => have : k = 0 := by omega
            subst this; rfl
  | succ m ih =>
    by_cases e : k = m + 1
    · subst e; rfl
    · have := ih (by omega); rw [vR, if_neg (by rw [this]; exact hk), this]
def rR (ks seen row : List Int) : Nat → Int
  | 0 => 0
  | j + 1 => if rR ks seen row j = 0 then tkE ks (seen ++ row.take j) (row.getD j 0) else rR ks seen row j
theorem rR_stay (ks seen row : List Int) (k m : Nat) (h : k ≤ m) (hk : rR ks seen row k ≠ 0) : rR ks seen row m = rR ks seen row k := by
  induction m with
  | zero => have : k = 0 := by omega
            subst this; rfl
  | succ m ih =>
    by_cases e : k = m + 1
    · subst e; rfl
    · have := ih (by omega); rw [rR, if_neg (by rw [this]; exact hk), this]
def dS (s0 : List Int) (D : List (List Int)) (i : Nat) : List Int := s0 ++ (D.take i).flatten
def dR (ks s0 : List Int) (D : List (List Int)) : Nat → Int
  | 0 => 0
  | i + 1 => if dR ks s0 D i = 0 then rR ks (dS s0 D i) (D.getD i []) (D.getD i []).length else dR ks s0 D i
theorem dR_stay (ks s0 : List Int) (D : List (List Int)) (k m : Nat) (h : k ≤ m) (hk : dR ks s0 D k ≠ 0) : dR ks s0 D m = dR ks s0 D k := by
  induction m with
  | zero => have : k = 0 := by omega
            subst this; rfl
  | succ m ih =>
    by_cases e : k = m + 1
    · subst e; rfl
    · have := ih (by omega); rw [dR, if_neg (by rw [this]; exact hk), this]
theorem dS_next {s0 : List Int} {D : List (List Int)} {i : Nat} (h : i < D.length) : dS s0 D (i + 1) = dS s0 D i ++ D.getD i [] := by
  unfold dS
  rw [List.take_add_one, List.getElem?_eq_getElem h, List.flatten_append, List.getD_eq_getElem?_getD, List.getElem?_eq_getElem h]
  simp
def lkE (ks : List Int) (vs : List (Int × Int)) (D : List (List Int)) : Int :=
  if vR ks vs vs.length = 0 then dR ks (snN vs vs.length) D D.length else vR ks vs vs.length
theorem getD_vs {vs : List (Int × Int)} {i : Nat} (h : i < vs.length) : vs[i]? = some (vs.getD i (0, 0)) := by
  rw [List.getD_eq_getElem?_getD, List.getElem?_eq_getElem h]; rfl
theorem take_succ_at {l : List Int} {j : Nat} {x : Int} (hj : j < l.length) (hx : l.getD j 0 = x) : l.take (j + 1) = l.take j ++ [x] := by
  rw [List.take_add_one, List.getElem?_eq_getElem hj, ← hx, List.getD_eq_getElem?_getD, List.getElem?_eq_getElem hj]; rfl
set_option maxRecDepth 20000 in
set_option maxHeartbeats 4000000 in
theorem look_of (av ad ak : Option Addr) (nv cv nd cd n ck : Nat) (vs : List (Int × Int)) (D : List (List Int)) (ks : List Int) (r : Int) (w : World) (hv : RV 4 enV w (.slice av nv cv) vs) (hD : MV w (.slice ad nd cd) D) (hk : View w (.slice ak n ck) ks) (hn : n ≤ 2000) (hr : lkE ks vs D = r) :
    Calls Try.prog 8 #[.slice av nv cv, .slice ad nd cd, .slice ak n ck] w fun e w' => e = .returned (.int .i64 r) ∧ Below w.heap.size w w' := by
  obtain ⟨hvl, hv1, hv2⟩ := hv.len
  obtain ⟨hdl, hd1, hd2⟩ := hD.len
  unfold maxLen at hv2 hd2
  have hmk := mk_bools n hn
  obtain ⟨TK, hTK⟩ : ∃ T, w.heap.size = T := ⟨_, rfl⟩
  have HTK := Lib.hid hTK
  obtain ⟨W0, hW0⟩ : ∃ W0, (w.alloc (boolsObj n)).alloc (.cells #[.slice ak n ck, .slice (some ⟨w.heap.size, 0, none⟩) n n] 66) = W0 := ⟨_, rfl⟩
  have HW0 := Lib.hid hW0
  have hs1 : (w.alloc (boolsObj n)).heap.size = TK + 1 := by rw [← hTK]; simp
  have hBA : Below w.heap.size w (w.alloc (boolsObj n)) := (Below.refl _ _).alloc (Nat.le_refl _) _
  have hBB : Below (w.alloc (boolsObj n)).heap.size (w.alloc (boolsObj n)) W0 := by rw [← hW0]; exact (Below.refl _ _).alloc (Nat.le_refl _) _
  have hB0 : Below w.heap.size w W0 := trans3 hBA hBB
  have hS0 : HS W0 (TK + 1) TK n ak ck ks (snN vs 0) := by
    refine ⟨?_, (hk.below hB0), ?_, by omega, fun b o e hne => ?_⟩
    · have := heap_box1 (w.alloc (boolsObj n)) #[.slice ak n ck, .slice (some ⟨w.heap.size, 0, none⟩) n n] 66
      rw [hW0, hs1, hTK] at this
      exact this
    · have := (made_bools n w).below hBB
      rw [hTK] at this
      exact this.congr fun i _ => by simp [snN]
    · obtain ⟨b2, o2, e2, hl, _⟩ := hk.at 0 (by rw [hk.len.1]; exact List.length_pos_iff.2 hne)
      rw [e] at e2
      cases e2
      omega
  have HS0 := Lib.hid hS0
  have HB0 := Lib.hid hB0
  have HV := Lib.hid hv
  have HD := Lib.hid hD
  have HVL := Lib.hid hvl
  have HDL := Lib.hid hdl
  have HR := Lib.hid hr
  clear hv hD hk hvl hdl hr hTK hW0 hs1 hBA hBB hB0 hS0
  go_enter Try.func8, Try.ntmps8
  go_wp2_with fail
  rw [HW0.out, HTK.out]
  go_loopw [24] (fun i wr => ∃ (k : Nat), k ≤ nv ∧ i = .int .i64 (k : Int) ∧ Hid (vR ks vs k = 0) ∧ Hid (au.HS wr (TK + 1) TK n ak ck ks (snN vs k)) ∧ Hid (Below w.heap.size w wr)) (fun i _ => nv - (intOf i).toNat)
  case atStart => exact ⟨0, by omega, rfl, Lib.hid rfl, HS0, HB0⟩
  case round =>
    clear HS0 HB0 HW0 hmk
    obtain ⟨k, hk, rfl, HZ, HS, HB⟩ := hrel
    by_cases hlt : k < nv
    · obtain ⟨b, o, rfl, hbl, hc⟩ := (HV.out.below HB.out).at k _ (getD_vs (by rw [← HVL.out]; exact hlt))
      obtain ⟨p, hp⟩ : ∃ p, vs.getD k (0, 0) = p := ⟨_, rfl⟩
      rw [hp] at hc
      obtain ⟨s, id⟩ := p
      have c0 : wr.cell? ⟨b, o + k * 4, none⟩ = some (.int .i64 s) := hc 0 _ rfl
      have c1 : wr.cell? ⟨b, o + k * 4 + 1, none⟩ = some (.int .i64 id) := hc 1 _ rfl
      have c2 : wr.cell? ⟨b, o + k * 4 + 2, none⟩ = some (.int .i64 0) := hc 2 _ rfl
      have c3 : wr.cell? ⟨b, o + k * 4 + 3, none⟩ = some (.int .i64 0) := hc 3 _ rfl
      have hn1 : Below wr.heap.size wr (wr.alloc (.cells #[.int .i64 s, .int .i64 id, .int .i64 0, .int .i64 0] 30)) := (Below.refl _ _).alloc (Nat.le_refl _) _
      obtain ⟨d, hd⟩ : ∃ d, vwE ks (snN vs k) s id = d := ⟨_, rfl⟩
      have CW := Lib.hid (worker_of (TK + 1) TK n ak ck ks (snN vs k) s id 0 0 d _ (HS.out.below hn1) hd)
      unfold WkPost at CW
      have HV1 : Hid (vR ks vs (k + 1) = d) := Lib.hid (by rw [vR, if_pos HZ.out, hp, hd])
      have HSN : Hid (snN vs (k + 1) = sn2 (snN vs k) id) := Lib.hid (by rw [snN, hp])
      have HB1 := Lib.hid (HB.out.trans (hn1.mono HB.out.size))
      clear hc hp hd hn1 HS HB
      by_cases hd0 : d = 0
      · subst hd0
        go_wp2_with (first | (go_at_call 29; (with_reducible refine CW.out.mono ?_); rintro e w5 ⟨rfl, hb5, hz5, h5⟩))
        have HS5 := Lib.hid (h5 (by first | exact trivial | exact rfl))
        have HB5 : Hid (Below w.heap.size w w5) := Lib.hid (HB1.out.trans (by rw [HTK.out]; exact hb5))
        clear hb5 h5
        go_wp2_with fail
        go_roundw
        case rel => exact ⟨k + 1, by omega, by go_num, HV1, by rw [HSN.out]; exact HS5, HB5⟩
        case measure => simp [intOf]; omega
      · have hdb : (d == 0) = false := by simpa using hd0
        have hdn : (d != 0) = true := by simpa using hd0
        have HF : Hid (r = d) := Lib.hid (by
          have h1 := vR_stay ks vs (k + 1) vs.length (by rw [← HVL.out]; exact hlt) (by rw [HV1.out]; exact hd0)
          rw [HV1.out] at h1
          rw [← HR.out]
          unfold lkE
          rw [h1, if_neg hd0])
        go_wp2_with (first | (go_at_call 29; (with_reducible refine CW.out.mono ?_); rintro e w5 ⟨rfl, hb5, hz5, h5⟩))
        go_ret
        exact ⟨by rw [HF.out]; rfl, HB1.out.trans (by rw [HTK.out]; exact hb5)⟩
    · obtain rfl : k = nv := by omega
      have HZ2 : Hid (lkE ks vs D = dR ks (snN vs k) D D.length) := Lib.hid (by unfold lkE; rw [← HVL.out, HZ.out, if_pos rfl])
      obtain ⟨s0, hs0⟩ : ∃ s, snN vs k = s := ⟨_, rfl⟩
      rw [hs0] at HS HZ2
      have HS1 : Hid (au.HS wr (TK + 1) TK n ak ck ks (dS s0 D 0)) := Lib.hid (by unfold dS; simpa using HS.out)
      have HB1 := HB
      clear HS HB hs0 HZ
      go_wp2_with fail
      go_loopw [37] (fun i wi => ∃ (i' : Nat), i' ≤ nd ∧ i = .int .i64 (i' : Int) ∧ Hid (dR ks s0 D i' = 0) ∧ Hid (au.HS wi (TK + 1) TK n ak ck ks (dS s0 D i')) ∧ Hid (Below w.heap.size w wi)) (fun i _ => nd - (intOf i).toNat)
      case atStart => exact ⟨0, by omega, rfl, Lib.hid rfl, HS1, HB1⟩
      case round =>
        clear HS1 HB1
        obtain ⟨i', hi', rfl, HZ, HS, HB⟩ := hrel
        by_cases hil : i' < nd
        · obtain ⟨b, o, a1, c1, rfl, hbl, hcl0, hv0⟩ := HD.out.row i' hil
          obtain ⟨_, hr1, hr2⟩ := hv0.len
          unfold maxLen at hr2
          have hcl := (HB.out.cell (p := ⟨b, o + i', none⟩) hbl).trans hcl0
          have hbl2 : b < wr.heap.size := Nat.lt_of_lt_of_le hbl HB.out.size
          obtain ⟨row, hrow⟩ : ∃ row, D.getD i' [] = row := ⟨_, rfl⟩
          rw [hrow] at hcl hv0 hr1
          obtain ⟨m, hm⟩ : ∃ m, row.length = m := ⟨_, rfl⟩
          rw [hm] at hcl hv0 hr1
          have HV0 := Lib.hid hv0
          have HM := Lib.hid hm
          have HRO := Lib.hid hrow
          have HS1 : Hid (au.HS wr (TK + 1) TK n ak ck ks (dS s0 D i' ++ row.take 0)) := Lib.hid (by simpa using HS.out)
          have HB1 := HB
          clear hcl0 hv0 hrow hm HS HB
          go_wp2_with fail
          go_loopw [43] (fun i wi => ∃ (j : Nat), j ≤ m ∧ i = .int .i64 (j : Int) ∧ Hid (rR ks (dS s0 D i') row j = 0) ∧ Hid (au.HS wi (TK + 1) TK n ak ck ks (dS s0 D i' ++ row.take j)) ∧ Hid (Below w.heap.size w wi)) (fun i _ => m - (intOf i).toNat)
          case atStart => exact ⟨0, by omega, rfl, Lib.hid rfl, HS1, HB1⟩
          case round =>
            clear HS1 HB1 hcl
            obtain ⟨j, hj, rfl, HRZ, HS, HB⟩ := hrel
            by_cases hjl : j < m
            · obtain ⟨b2, o2, rfl, hbl3, hcx⟩ := (HV0.out.below HB.out).at j hjl
              obtain ⟨x, hx⟩ : ∃ x, row.getD j 0 = x := ⟨_, rfl⟩
              rw [hx] at hcx
              obtain ⟨d, hd⟩ : ∃ d, tkE ks (dS s0 D i' ++ row.take j) x = d := ⟨_, rfl⟩
              have CT := Lib.hid (take_of (TK + 1) TK n ak ck ks _ x d wr HS.out hd)
              have HR1 : Hid (rR ks (dS s0 D i') row (j + 1) = d) := Lib.hid (by rw [rR, if_pos HRZ.out, hx, hd])
              have HT1 : Hid (dS s0 D i' ++ row.take (j + 1) = dS s0 D i' ++ row.take j ++ [x]) := Lib.hid (by rw [take_succ_at (by rw [HM.out]; exact hjl) hx, List.append_assoc])
              clear hx hd
              by_cases hd0 : d = 0
              · subst hd0
                go_wp2_with (first | (go_at_call 30; (with_reducible refine CT.out.mono ?_); rintro e w5 ⟨rfl, h5, h6⟩))
                have hh5 := h5 (by first | exact trivial | exact rfl)
                have HS5 := Lib.hid hh5.1
                have HB5 : Hid (Below w.heap.size w w5) := Lib.hid (HB.out.trans (by rw [HTK.out]; exact hh5.2.1))
                clear h5 h6 hh5 HS HB
                go_wp2_with fail
                go_roundw
                case rel => exact ⟨j + 1, by omega, by go_num, HR1, by rw [HT1.out]; exact HS5, HB5⟩
                case measure => simp [intOf]; omega
              · have hdb : (d == 0) = false := by simpa using hd0
                have hdn : (d != 0) = true := by simpa using hd0
                have HF : Hid (r = d) := Lib.hid (by
                  have h1 := rR_stay ks (dS s0 D i') row (j + 1) row.length (by rw [HM.out]; exact hjl) (by rw [HR1.out]; exact hd0)
                  rw [HR1.out] at h1
                  have h2 : dR ks s0 D (i' + 1) = d := by rw [dR, if_pos HZ.out, HRO.out, h1]
                  have h3 := dR_stay ks s0 D (i' + 1) D.length (by rw [← HDL.out]; exact hil) (by rw [h2]; exact hd0)
                  rw [← HR.out, HZ2.out, h3, h2])
                go_wp2_with (first | (go_at_call 30; (with_reducible refine CT.out.mono ?_); (rintro e w5 ⟨rfl, h5, h6⟩); (obtain rfl := h6 hd0)))
                go_ret
                exact ⟨by rw [HF.out]; rfl, HB.out⟩
            · obtain rfl : j = m := by omega
              have HS5 : Hid (au.HS wr (TK + 1) TK n ak ck ks (dS s0 D (i' + 1))) := Lib.hid (by
                rw [dS_next (by rw [← HDL.out]; exact hil), HRO.out]
                have := HS.out
                rw [List.take_of_length_le (by rw [HM.out]; omega)] at this
                exact this)
              have HZ5 : Hid (dR ks s0 D (i' + 1) = 0) := Lib.hid (by rw [dR, if_pos HZ.out, HRO.out, HM.out, HRZ.out])
              clear HS
              go_wp2_with fail
              go_roundw
              case rel => exact ⟨i' + 1, by omega, by go_num, HZ5, HS5, HB⟩
              case measure => simp [intOf]; omega
        · obtain rfl : i' = nd := by omega
          have HF : Hid (r = 0) := Lib.hid (by rw [← HR.out, HZ2.out, ← HDL.out, HZ.out])
          go_wp2_with fail
          go_ret
          exact ⟨by rw [HF.out]; rfl, HB.out⟩
end Go.Proofs.Ytpflimnngilhnaa.au
