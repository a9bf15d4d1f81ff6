/- Two lists of rows are the same; what is written is read (layer 38). -/
import Derived.Test.YtdgjlniciehjbaaDoorPcI
namespace Go.Proofs.YtdgjlniciehjbaaDoor.pc
open Go.ChangeShapes Go.WideShapes Go.ChangeAt Go.RowKit
open Go.Proofs.YtdgjlniciehjbaaDoor.gr (C2 d2 chkE Rts Rt chkE_rts PM enC recC RV.two rcheck_v check_v cel2 ce_ne)
open Go.Proofs.YtdgjlniciehjbaaDoor.st Go.Proofs.YtdgjlniciehjbaaDoor.wd
set_option linter.unusedVariables false
set_option linter.unusedSimpArgs false
set_option maxRecDepth 20000 in
set_option maxHeartbeats 1000000 in
theorem same_v (a a' : Option Addr) (n n' c c' : Nat) (L : List (List C2)) (w : World) (h : PM w (.slice a n c) L) (h' : PM w (.slice a' n' c') L) :
    Calls Tryd.prog 14 #[.slice a n c, .slice a' n' c'] w fun e w' => e = .returned (.bool true) ∧ Below w.heap.size w w' := by
  obtain ⟨hnl, hnc, hcm⟩ := h.len
  obtain ⟨hnl', hnc', hcm'⟩ := h'.len
  unfold maxLen at hcm hcm'
  have hnn : n' = n := by omega
  subst hnn
  have HR0 := Lib.hid h
  have HR1 := Lib.hid h'
  have nn0 : ((n' : Int) != (n' : Int)) = false := by simp
  have h00 : Hid (∃ q, w = w.drewN q) := Lib.hid ⟨0, rfl⟩
  clear h h' hnl hnl'
  go_enter Tryd.func14, Tryd.ntmps14
  go_wp2_with fail
  go_loopw [5] (fun i wr => ∃ k : Nat, i = .int .i64 (k : Int) ∧ k ≤ n' ∧ Hid (∃ q, wr = w.drewN q)) (fun i _ => n' - (intOf i).toNat)
  case atStart => exact ⟨0, rfl, by omega, h00⟩
  case round =>
    clear h00
    obtain ⟨k, rfl, hk, HW⟩ := hrel
    have hbw : Below w.heap.size w wr := by obtain ⟨q, rfl⟩ := HW.out; exact below_drewN (Below.refl _ _) q
    by_cases hlt : k < n'
    · obtain ⟨b, o, ai, ci, rfl, hbl, c0, hrow⟩ := HR0.out.row k hlt
      obtain ⟨b', o', ai', ci', rfl, hbl', c0', hrow'⟩ := HR1.out.row k hlt
      obtain ⟨l, hl⟩ : ∃ l, L.getD k [] = l := ⟨_, rfl⟩
      rw [hl] at c0 hrow c0' hrow'
      obtain ⟨m, hm⟩ : ∃ m, l.length = m := ⟨_, rfl⟩
      obtain ⟨_, hmc, hcm2⟩ := hrow.len
      unfold maxLen at hcm2
      rw [hm] at c0 hrow c0' hrow' hmc
      have HC := Lib.hid (And.intro c0 c0')
      have HBB := Lib.hid (And.intro hbl hbl')
      have HROW := Lib.hid hrow
      have HROW' := Lib.hid hrow'
      have c0 := (hbw.cell (p := ⟨b, o + k, none⟩) hbl).trans c0
      have c0' := (hbw.cell (p := ⟨b', o' + k, none⟩) hbl').trans c0'
      have hkI : (k : Int) < (n' : Int) := by omega
      have mm : ((m : Int) != (m : Int)) = false := by simp
      clear hl hm hrow hrow' hbw hbl hbl'
      go_wp2_with fail
      go_quiet (fail)
      have HW2 : Hid (∃ q, wr.drewN nq = w.drewN q) := Lib.hid (by obtain ⟨q, h9⟩ := HW.out; rw [h9]; exact ⟨q + nq, by first | rfl | simp [World.drewN, Nat.add_assoc]⟩)
      clear HW
      go_wp2_with fail
      go_loopw [6] (fun i wr => ∃ j : Nat, i = .int .i64 (j : Int) ∧ j ≤ m ∧ Hid (∃ q, wr = w.drewN q)) (fun i _ => m - (intOf i).toNat)
      case atStart => exact ⟨0, rfl, by omega, HW2⟩
      case round =>
        clear HW2
        obtain ⟨j, rfl, hj, HW⟩ := hrel
        have hbw : Below w.heap.size w wr := by obtain ⟨q, rfl⟩ := HW.out; exact below_drewN (Below.refl _ _) q
        have c0 := (hbw.cell (p := ⟨b, o + k, none⟩) HBB.out.1).trans HC.out.1
        have c0' := (hbw.cell (p := ⟨b', o' + k, none⟩) HBB.out.2).trans HC.out.2
        by_cases hjt : j < m
        · obtain ⟨b2, o2, rfl, hbl2, d0, d1⟩ := RV.two (HROW.out.below hbw) j hjt
          obtain ⟨b3, o3, rfl, hbl3, e0, e1⟩ := RV.two (HROW'.out.below hbw) j hjt
          obtain ⟨⟨s1, x1⟩, hx1⟩ : ∃ x, l.getD j d2 = x := ⟨_, rfl⟩
          rw [hx1] at d0 d1 e0 e1
          simp only at d0 d1 e0 e1
          have hne : ∀ w9 : World, Sem.run Tryd.prog (binOp .neq 38 (.agg #[.int .i64 s1, .bool x1]) (.agg #[.int .i64 s1, .bool x1])) w9 = .ok (.bool false) w9 := fun w9 => ce_ne s1 s1 x1 x1 true (by simp) w9
          have hjI : (j : Int) < (m : Int) := by omega
          clear hx1 hbw
          go_wp2_with fail
          go_quiet (fail)
          have HW2 : Hid (∃ q, wr.drewN nq = w.drewN q) := Lib.hid (by obtain ⟨q, h9⟩ := HW.out; rw [h9]; exact ⟨q + nq, by first | rfl | simp [World.drewN, Nat.add_assoc]⟩)
          go_wp2_with fail
          go_roundw
          case rel => exact ⟨j + 1, by go_num, by omega, HW2⟩
          case measure => first | (simp [intOf]; done) | (simp [intOf]; omega)
        · obtain rfl : j = m := by omega
          clear hbw
          go_wp2_with fail
          go_roundw
          case rel => exact ⟨k + 1, by go_num, by omega, HW⟩
          case measure => first | (simp [intOf]; done) | (simp [intOf]; omega)
    · obtain rfl : k = n' := by omega
      have HB := Lib.hid hbw
      clear hbw
      go_wp2_with fail
      go_ret
      exact ⟨rfl, HB.out⟩
/-- what is written has no blank and no end of line in a word. -/
theorem itoa_bytes (v : Int) (h0 : 0 ≤ v) : ∀ c ∈ Lib.itoa v, Dg c := by
  rw [itoa_pos h0]
  exact dec_digits _
theorem cellS_bytes {c : C2} (h0 : 0 ≤ c.1) (f : Bool) : cellS c f ≠ [] ∧ ∀ x ∈ cellS c f, x ≠ 32 ∧ x ≠ 10 := by
  have hd : ∀ x ∈ Lib.itoa c.1, x ≠ 32 ∧ x ≠ 10 := fun x hx => by
    have h1 := itoa_bytes c.1 h0 x hx
    unfold Dg at h1
    constructor
    · rintro rfl; exact absurd h1.1 (by decide)
    · rintro rfl; exact absurd h1.1 (by decide)
  have hne : Lib.itoa c.1 ≠ [] := by rw [itoa_pos h0]; exact dec_ne _
  unfold cellS
  split
  · refine ⟨by simp, fun x hx => ?_⟩
    simp only [List.mem_cons] at hx
    rcases hx with rfl | hx
    · decide
    · exact hd x hx
  · split
    · exact ⟨hne, hd⟩
    · refine ⟨by simp, fun x hx => ?_⟩
      simp only [List.mem_cons] at hx
      rcases hx with rfl | hx
      · decide
      · exact hd x hx
theorem rdC_cons (c : UInt8) (t : List UInt8) (f : Bool) : rdC (c :: t) f = if c.toNat = 62 then okC (numV t) true else if c.toNat = 45 then okC (numV t) false else if f then okC (numV (c :: t)) false else none := rfl
theorem rdC_cell {c : C2} (h0 : 0 ≤ c.1) (hI : I64 c.1) (f : Bool) (hw : f = true → c.2 = false) : rdC (cellS c f) f = some c := by
  obtain ⟨v, b⟩ := c
  simp only at h0 hI hw
  cases b with
  | true =>
    have e : cellS (v, true) f = 62 :: Lib.itoa v := rfl
    rw [e]
    rw [rdC_cons, if_pos (by decide), numV_itoa hI]
    rfl
  | false =>
    cases f with
    | false =>
      have e : cellS (v, false) false = 45 :: Lib.itoa v := rfl
      rw [e]
      rw [rdC_cons, if_neg (by decide), if_pos (by decide), numV_itoa hI]
      rfl
    | true =>
      have e : cellS (v, false) true = Lib.itoa v := rfl
      rw [e]
      have hne : Lib.itoa v ≠ [] := by rw [itoa_pos h0]; exact dec_ne _
      cases hx : Lib.itoa v with
      | nil => exact absurd hx hne
      | cons c t =>
        have h1 := itoa_bytes v h0 c (by rw [hx]; simp)
        unfold Dg at h1
        rw [rdC_cons, if_neg (by omega), if_neg (by omega), if_pos rfl, ← hx, numV_itoa hI]
        rfl
theorem wds_mem {l : List C2} (hl : Rt l) : ∀ n, n ≤ l.length → ∀ x ∈ wdsN l n, x ≠ [] ∧ ∀ c ∈ x, c ≠ 32 ∧ c ≠ 10
  | 0, _, x, hx => by simp [wdsN] at hx
  | n + 1, h, x, hx => by
    rw [wdsN, List.mem_append] at hx
    rcases hx with hx | hx
    · exact wds_mem hl n (by omega) x hx
    · simp only [List.mem_singleton] at hx
      subst hx
      exact cellS_bytes (hl.nn n (by omega)) _
theorem wds_getD (l : List C2) : ∀ n k, k < n → (wdsN l n).getD k [] = cellS (l.getD k d2) (k == 0)
  | 0, k, h => by omega
  | n + 1, k, h => by
    rw [wdsN]
    rcases Nat.lt_or_ge k n with h1 | h1
    · rw [List.getD_eq_getElem?_getD, List.getElem?_append_left (by rw [wds_len]; exact h1), ← List.getD_eq_getElem?_getD]
      exact wds_getD l n k h1
    · obtain rfl : k = n := by omega
      rw [List.getD_eq_getElem?_getD, List.getElem?_append_right (by rw [wds_len]; exact Nat.le_refl _), wds_len, Nat.sub_self]
      rfl
theorem rdRow_wds {l : List C2} (hl : Rt l) : ∀ n, n ≤ l.length → rdRow (wdsN l l.length) n = some (l.take n)
  | 0, _ => by simp [rdRow]
  | n + 1, h => by
    rw [rdRow, rdRow_wds hl n (by omega)]
    simp only
    rw [wds_getD l _ n (by omega), rdC_cell (hl.nn n (by omega)) (I64c hl (by omega)) _ (fun h0 => by
      have : n = 0 := by simpa using h0
      subst this
      rw [hl.z]
      rfl)]
    simp only
    congr 1
    rw [List.take_succ_eq_append_getElem (by omega), List.getD_eq_getElem?_getD, List.getElem?_eq_getElem (by omega)]
    rfl
theorem row_fld {l : List C2} (hl : Rt l) : fldV (rowT l) = wdsN l l.length := by
  unfold rowT
  exact fld_join _ (fun x hx => ⟨(wds_mem hl _ (Nat.le_refl _) x hx).1, fun c hc => ((wds_mem hl _ (Nat.le_refl _) x hx).2 c hc).1⟩)
theorem par_no10 {l : List C2} (hl : Rt l) : ∀ n, n ≤ l.length → ∀ c ∈ parN l n, c ≠ 10
  | 0, _, c, hc => by simp [parN] at hc
  | n + 1, h, c, hc => by
    rw [parN, List.mem_append] at hc
    rcases hc with hc | hc
    · split at hc
      · simp only [List.mem_append, List.mem_singleton] at hc
        rcases hc with hc | rfl
        · exact par_no10 hl n (by omega) c hc
        · decide
      · exact par_no10 hl n (by omega) c hc
    · exact ((cellS_bytes (hl.nn n (by omega)) _).2 c hc).2
theorem row_no10 {l : List C2} (hl : Rt l) : ∀ c ∈ rowT l, c ≠ 10 := by
  unfold rowT
  rw [par_join]
  exact par_no10 hl _ (Nat.le_refl _)
theorem txtN_txt (L : List (List C2)) : ∀ n, n ≤ L.length → txtN L n = txt ((L.take n).map rowT)
  | 0, _ => by simp [txtN, txt]
  | n + 1, h => by
    rw [txtN, txtN_txt L n (by omega), List.take_succ_eq_append_getElem (by omega), List.map_append, List.map_singleton, txt_snoc, List.append_assoc, List.append_assoc]
    congr 2
    rw [List.getD_eq_getElem?_getD, List.getElem?_eq_getElem (by omega)]
    rfl
theorem lin_txtV {L : List (List C2)} (hL : Rts L) : linV (txtV L) = L.map rowT := by
  unfold txtV
  rw [txtN_txt L _ (Nat.le_refl _), List.take_length]
  refine lin_txt _ (fun x hx => ?_)
  obtain ⟨l, hl, rfl⟩ := List.mem_map.1 hx
  obtain ⟨i, hi⟩ := List.getElem?_of_mem hl
  have hlt := (List.getElem?_eq_some_iff.1 hi).1
  have : l = L.getD i [] := by rw [List.getD_eq_getElem?_getD, hi]; rfl
  rw [this]
  exact row_no10 (hL.r i hlt)
theorem rdN_map {L : List (List C2)} (hL : Rts L) : ∀ n, n ≤ L.length → rdN (L.map rowT) n = some (L.take n)
  | 0, _ => by simp [rdN]
  | n + 1, h => by
    have hg : (L.map rowT).getD n [] = rowT (L.getD n []) := by
      rw [List.getD_eq_getElem?_getD, List.getElem?_map, List.getD_eq_getElem?_getD, List.getElem?_eq_getElem (by omega)]
      rfl
    have hr := hL.r n (by omega)
    rw [rdN, rdN_map hL n (by omega)]
    simp only
    rw [hg, row_fld hr, wds_len, rdRow_wds hr _ (Nat.le_refl _), List.take_length]
    simp only
    congr 1
    rw [List.take_succ_eq_append_getElem (by omega), List.getD_eq_getElem?_getD, List.getElem?_eq_getElem (by omega)]
    rfl
/-- what is written is read as it was. -/
theorem rd_txt {L : List (List C2)} (h0 : chkE L = 0) : rdA (txtV L) = some L := by
  have hL := chkE_rts h0
  unfold rdA
  rw [lin_txtV hL, List.length_map, rdN_map hL _ (Nat.le_refl _), List.take_length]
theorem rdE_txt {L : List (List C2)} (h0 : chkE L = 0) : rdE (txtV L) = 0 ∧ rdL (txtV L) = L := by
  unfold rdE rdL
  rw [rd_txt h0]
  exact ⟨h0, if_pos h0⟩
end Go.Proofs.YtdgjlniciehjbaaDoor.pc
