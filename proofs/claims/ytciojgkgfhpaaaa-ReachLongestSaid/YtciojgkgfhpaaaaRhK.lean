/- Whether things come behind their predecessors: the program's and the document's (layer 31). -/
import Derived.Test.YtciojgkgfhpaaaaRhJ
namespace Go.Proofs.Ytciojgkgfhpaaaa.rh
open Go.ChangeShapes Go.WideShapes Go.ChangeAt Go.RowKit
set_option linter.unusedVariables false
set_option linter.unusedSimpArgs false
/-- is x among the first i? -/
def cI (l : List Int) (i : Nat) (x : Int) : Bool := decide (x ∈ l.take i)
def stO (L : List (List Int)) (n : Nat) (l : List Int) (i : Nat) : Bool :=
  inB (l.getD i 0) n && (!cI l i (l.getD i 0) && (L.getD (l.getD i 0).toNat []).all (cI l i))
def orN (L : List (List Int)) (n : Nat) (l : List Int) : Nat → Bool
  | 0 => true
  | k + 1 => orN L n l k && stO L n l k
theorem orN_mono {L : List (List Int)} {n : Nat} {l : List Int} (m k : Nat) (h : m ≤ k) (hk : orN L n l k = true) : orN L n l m = true := by
  induction k with
  | zero => have : m = 0 := by omega
            subst this; exact hk
  | succ k ih =>
    by_cases e : m = k + 1
    · subst e; exact hk
    · exact ih (by omega) (by simp only [orN, Bool.and_eq_true] at hk; exact hk.1)
theorem orN_bad {L : List (List Int)} {n : Nat} {l : List Int} {k m : Nat} (hk : k < m) (h : stO L n l k = false) : orN L n l m = false := by
  cases e : orN L n l m with
  | false => rfl
  | true =>
    have := orN_mono (k + 1) m hk e
    simp only [orN, Bool.and_eq_true] at this
    rw [h] at this
    exact absurd this.2 (by simp)
theorem mem_take_at {l : List Int} {k : Nat} {x : Int} (h : x ∈ l.take k) : ∃ i, i < k ∧ i < l.length ∧ l.getD i 0 = x := by
  obtain ⟨i, hi, e⟩ := List.getElem_of_mem h
  rw [List.length_take] at hi
  rw [List.getElem_take] at e
  exact ⟨i, by omega, by omega, by rw [List.getD_eq_getElem?_getD, List.getElem?_eq_getElem (by omega)]; exact e⟩
theorem orN_in {L : List (List Int)} {n : Nat} {l : List Int} {k : Nat} (h : orN L n l k = true) {x : Int} (hx : cI l k x = true) : 0 ≤ x ∧ x < (n : Int) := by
  obtain ⟨i, h1, h2, rfl⟩ := mem_take_at (of_decide_eq_true hx)
  have := orN_mono (i + 1) k h1 h
  simp only [orN, stO, Bool.and_eq_true] at this
  have h3 := this.2.1
  unfold inB at h3
  simpa using h3
theorem cI_succ {l : List Int} {j : Nat} (hj : j < l.length) (x : Int) : cI l (j + 1) x = (cI l j x || decide (x = l.getD j 0)) := mem_take_succ hj x
theorem all_take_succ {l : List Int} {p : Int → Bool} {j : Nat} (hj : j < l.length) : (l.take (j + 1)).all p = ((l.take j).all p && p (l.getD j 0)) := by
  rw [List.take_add_one, List.getElem?_eq_getElem hj, List.all_append]
  simp [List.getD_eq_getElem?_getD, List.getElem?_eq_getElem hj]
theorem all_bad {l : List Int} {p : Int → Bool} {j : Nat} (hj : j < l.length) (h : p (l.getD j 0) = false) : l.all p = false := by
  cases e : l.all p with
  | false => rfl
  | true =>
    have := List.all_eq_true.1 e (l.getD j 0) (getD_mem hj)
    rw [h] at this; cases this
theorem cI_later {l : List Int} {k i : Nat} {x : Int} (hk : k < i) (hl : k < l.length) (h : l.getD k 0 = x) : cI l i x = true := by
  unfold cI
  rw [decide_eq_true_eq, ← h, List.getD_eq_getElem?_getD, List.getElem?_eq_getElem hl]
  simp only [Option.getD_some]
  rw [List.mem_iff_getElem]
  exact ⟨k, by rw [List.length_take]; omega, by rw [List.getElem_take]⟩
set_option maxRecDepth 20000 in
set_option maxHeartbeats 2000000 in
theorem order_of (a al : Option Addr) (n cap m ml : Nat) (L : List (List Int)) (l : List Int) (v : Bool) (w : World) (h : MV w (.slice a n cap) L) (hl : View w (.slice al m ml) l) (hn : n ≤ 1002) (hv : orN L n l m = v) :
    Calls Try.prog 19 #[.slice a n cap, .slice al m ml] w fun e w' => e = .returned (.bool v) ∧ Below w.heap.size w w' := by
  obtain ⟨hnl, hnc, hcm⟩ := h.len
  obtain ⟨hml, hm1, hm2⟩ := hl.len
  unfold maxLen at hm2
  have hmk := mk_bools n (by omega)
  obtain ⟨S, hS⟩ : ∃ S, w.heap.size = S := ⟨_, rfl⟩
  have HS := Lib.hid hS
  have H := Lib.hid h
  have HLV := Lib.hid hl
  have HML := Lib.hid hml
  have HVV := Lib.hid hv
  obtain ⟨W0, hW0⟩ : ∃ W0, w.alloc (boolsObj n) = W0 := ⟨_, rfl⟩
  have hr0 : Hid (BR W0 S n (fun i => cI l 0 (i : Int))) := Lib.hid (by rw [← hW0, ← hS]; exact (made_bools n w).congr fun i _ => by simp [cI])
  have hB0 : Hid (Below w.heap.size w W0) := Lib.hid (by rw [← hW0]; go_grown)
  have HW0 := Lib.hid hW0
  clear h hcm hnl hS hW0 hl hml hv
  go_enter Try.func19, Try.ntmps19
  go_wp2_with fail
  rw [HW0.out, HS.out]
  go_loopw [15] (fun i wr => ∃ (k : Nat), k ≤ m ∧ i = .int .i64 (k : Int) ∧ Hid (orN L n l k = true) ∧ Hid (BR wr S n (fun i => cI l k (i : Int))) ∧ Hid (Below w.heap.size w wr)) (fun i _ => m - (intOf i).toNat)
  case atStart => exact ⟨0, by omega, rfl, Lib.hid rfl, hr0, hB0⟩
  case round =>
    clear hr0 hB0 hmk HW0
    obtain ⟨k, hk, rfl, HO, HR, HB⟩ := hrel
    by_cases hlt : k < m
    · obtain ⟨b1, o1, rfl, hbl1, hcx⟩ := (HLV.out.below HB.out).at k hlt
      obtain ⟨x, hx⟩ : ∃ x, l.getD k 0 = x := ⟨_, rfl⟩
      rw [hx] at hcx
      have HX := Lib.hid hx
      have HBad : Hid (stO L n l k = false → v = false) := Lib.hid fun e => by rw [← HVV.out]; exact orN_bad hlt e
      have HST : Hid (stO L n l k = (inB x n && (!cI l k x && (L.getD x.toNat []).all (cI l k)))) := Lib.hid (by unfold stO; rw [hx])
      clear hx
      by_cases hx0 : 0 ≤ x
      · have hx1 : ¬ x < 0 := by omega
        by_cases hxn : x < (n : Int)
        · have hx2 : ¬ (n : Int) ≤ x := by omega
          obtain ⟨y, rfl⟩ : ∃ y : Nat, x = (y : Int) := ⟨x.toNat, by omega⟩
          have hy : y < n := by omega
          have hin : Hid (inB (y : Int) n = true) := Lib.hid (by unfold inB; simp; omega)
          have hcc := HR.out.at y _ hy rfl
          obtain ⟨cy, hcy⟩ : ∃ cy, cI l k (y : Int) = cy := ⟨_, rfl⟩
          rw [hcy] at hcc
          have HCY := Lib.hid hcy
          clear hcy
          cases cy with
          | true =>
            have HF : Hid (v = false) := Lib.hid (HBad.out (by rw [HST.out, hin.out, HCY.out]; rfl))
            have HBB := HB
            clear HR HB
            go_wp2_with fail
            go_ret
            exact ⟨by rw [HF.out]; rfl, HBB.out⟩
          | false =>
            obtain ⟨b, o, ai, ci, rfl, hbl, hcl, hvv⟩ := H.out.row y hy
            obtain ⟨_, hr1, hr2⟩ := hvv.len
            unfold maxLen at hr2
            have HV := Lib.hid hvv
            obtain ⟨r, hr⟩ : ∃ r, (L.getD y []).length = r := ⟨_, rfl⟩
            rw [hr] at hcl HV hr1
            have HM := Lib.hid hr
            have HC := Lib.hid hcl
            have hclr := (HB.out.cell (p := ⟨b, o + y, none⟩) hbl).trans hcl
            have hblr : b < wr.heap.size := Nat.lt_of_lt_of_le hbl HB.out.size
            have HR0 := HR
            have HB0 := HB
            clear hvv hr hcl HR HB
            go_wp2_with fail
            go_loopw [38] (fun i wi => ∃ (j : Nat), wi = wr ∧ j ≤ r ∧ i = .int .i64 (j : Int) ∧ Hid (((L.getD y []).take j).all (cI l k) = true)) (fun i _ => r - (intOf i).toNat)
            case atStart => exact ⟨0, rfl, by omega, rfl, Lib.hid (by simp)⟩
            case round =>
              obtain ⟨j, rfl, hj, rfl, HA⟩ := hrel
              by_cases hjl : j < r
              · obtain ⟨b2, o2, rfl, hbl3, hcp⟩ := (HV.out.below HB0.out).at j hjl
                obtain ⟨p, hp⟩ : ∃ p, (L.getD y []).getD j 0 = p := ⟨_, rfl⟩
                rw [hp] at hcp
                have HP := Lib.hid hp
                have HAll : Hid (cI l k p = false → v = false) := Lib.hid fun e => HBad.out (by
                  rw [HST.out, Int.toNat_natCast, all_bad (by rw [HM.out]; exact hjl) (by rw [hp]; exact e)]; simp)
                have HNext : Hid (cI l k p = true → ((L.getD y []).take (j + 1)).all (cI l k) = true) := Lib.hid fun e => by
                  rw [all_take_succ (by rw [HM.out]; exact hjl), HA.out, hp, e]; rfl
                clear hp
                by_cases hp0 : 0 ≤ p
                · have hp1 : ¬ p < 0 := by omega
                  by_cases hpn : p < (n : Int)
                  · have hp2 : ¬ (n : Int) ≤ p := by omega
                    obtain ⟨c, rfl⟩ : ∃ c : Nat, p = (c : Int) := ⟨p.toNat, by omega⟩
                    have hcn : c < n := by omega
                    have hcd := HR0.out.at c _ hcn rfl
                    obtain ⟨cc, hce⟩ : ∃ cc, cI l k (c : Int) = cc := ⟨_, rfl⟩
                    rw [hce] at hcd
                    have HCE := Lib.hid hce
                    clear hce
                    cases cc with
                    | true =>
                      have HN := Lib.hid (HNext.out HCE.out)
                      go_wp2_with fail
                      go_roundw
                      case rel => exact ⟨j + 1, (by trivial), by omega, by go_num, HN⟩
                      case measure => simp [intOf]; omega
                    | false =>
                      have HF := Lib.hid (HAll.out HCE.out)
                      go_wp2_with fail
                      go_ret
                      exact ⟨by rw [HF.out]; rfl, HB0.out⟩
                  · have hp2 : (n : Int) ≤ p := by omega
                    have HF : Hid (v = false) := Lib.hid (HAll.out (by
                      cases e : cI l k p with
                      | false => rfl
                      | true => exact absurd (orN_in HO.out e).2 hpn))
                    go_wp2_with fail
                    go_ret
                    exact ⟨by rw [HF.out]; rfl, HB0.out⟩
                · have hp1 : p < 0 := by omega
                  have HF : Hid (v = false) := Lib.hid (HAll.out (by
                      cases e : cI l k p with
                      | false => rfl
                      | true => exact absurd (orN_in HO.out e).1 hp0))
                  go_wp2_with fail
                  go_ret
                  exact ⟨by rw [HF.out]; rfl, HB0.out⟩
              · obtain rfl : j = r := by omega
                have hfz := World.rowIs.frozen HR0.out y
                have HR5 : Hid (BR (wr.setCell ⟨S, y, none⟩ (.bool true)) S n (fun i => cI l (k + 1) (i : Int))) := Lib.hid ((HR0.out.set y true).congr fun i _ => by
                  rw [cI_succ (by rw [← HML.out]; exact hlt), HX.out]
                  by_cases e : i = y
                  · subst e; simp
                  · rw [if_neg e]
                    have : ¬ ((i : Int) = (y : Int)) := by omega
                    simp [this])
                have HB5 := Lib.hid (HB0.out.setCell (p := ⟨S, y, none⟩) (by rw [HS.out]; exact Nat.le_refl _) (.bool true))
                have HO5 : Hid (orN L n l (k + 1) = true) := Lib.hid (by
                  rw [orN, HO.out, HST.out, hin.out, HCY.out, Int.toNat_natCast]
                  have := HA.out
                  rw [List.take_of_length_le (by rw [HM.out]; omega)] at this
                  rw [this]; rfl)
                go_wp2_with fail
                go_roundw
                case rel => exact ⟨k + 1, by omega, by go_num, HO5, HR5, HB5⟩
                case measure => simp [intOf]; omega
        · have hx2 : (n : Int) ≤ x := by omega
          have HF : Hid (v = false) := Lib.hid (HBad.out (by rw [HST.out]; unfold inB; simp; omega))
          go_wp2_with fail
          go_ret
          exact ⟨by rw [HF.out]; rfl, HB.out⟩
      · have hx1 : x < 0 := by omega
        have HF : Hid (v = false) := Lib.hid (HBad.out (by rw [HST.out]; unfold inB; simp; omega))
        go_wp2_with fail
        go_ret
        exact ⟨by rw [HF.out]; rfl, HB.out⟩
    · obtain rfl : k = m := by omega
      have HT : Hid (v = true) := Lib.hid (by rw [← HVV.out, HO.out])
      go_wp2_with fail
      go_ret
      exact ⟨by rw [HT.out]; rfl, HB.out⟩
end Go.Proofs.Ytciojgkgfhpaaaa.rh
