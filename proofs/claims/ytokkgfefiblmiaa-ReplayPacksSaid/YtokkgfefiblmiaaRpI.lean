/- What the law on scripts in short calls besides (layer 43). -/
import Derived.Test.YtokkgfefiblmiaaRpB
namespace Go.Proofs.Ytokkgfefiblmiaa.rp
open Go.ChangeShapes Go.WideShapes Go.ChangeAt Go.RowKit
set_option linter.unusedVariables false
set_option linter.unusedSimpArgs false
open Classical in
noncomputable def PkA (l : List P2) : List UInt8 := if ∀ x ∈ l, fit2 x then rpk 0 l else []
open Classical in
noncomputable def PkC (l : List P2) : Int := if ∀ x ∈ l, fit2 x then 0 else 3
def UpA (L : List UInt8) : List P2 := if L.length % 3 = 0 then up L else []
def UpC (L : List UInt8) : Int := if L.length % 3 = 0 then 0 else 1
theorem pk_uni {w w' : World} {l : List P2} {e : Ending} (h : PkP w l e w') : e = .returned (.tuple #[.string ⟨(PkA l).toArray⟩, .int .i64 (PkC l)]) ∧ Below w.heap.size w w' := by
  obtain ⟨h1, h2, h3⟩ := h
  refine ⟨?_, h1⟩
  unfold PkA PkC
  by_cases hf : ∀ x ∈ l, fit2 x
  · rw [if_pos hf, if_pos hf]; exact h2 hf
  · rw [if_neg hf, if_neg hf]; exact h3 hf
theorem up_uni {w w' : World} {L : List UInt8} {e : Ending} (h : UpP w L e w') : (∃ a n c, e = .returned (.tuple #[.slice a n c, .int .i64 (UpC L)]) ∧ RV 2 enQ w' (.slice a n c) (UpA L)) ∧ Below w.heap.size w w' := by
  obtain ⟨h1, h2⟩ := h
  refine ⟨?_, h1⟩
  unfold UpA UpC
  by_cases hf : L.length % 3 = 0
  · rw [if_pos hf] at h2
    obtain ⟨v, he, ho⟩ := h2
    obtain ⟨a, c, rfl⟩ := ho.form
    rw [if_pos hf, if_pos hf]
    exact ⟨a, _, c, he, OR.rv recQ ho⟩
  · rw [if_neg hf] at h2
    rw [if_neg hf, if_neg hf]
    exact ⟨none, 0, 0, h2, RV.zero2 (Nat.zero_le _) (fun _ => rfl)⟩
theorem pk_cases (l : List P2) : (PkC l = 0 ∧ PkA l = rpk 0 l ∧ ∀ x ∈ l, fit2 x) ∨ (PkC l = 3 ∧ PkA l = []) := by
  unfold PkC PkA
  by_cases hf : ∀ x ∈ l, fit2 x
  · exact .inl ⟨if_pos hf, if_pos hf, hf⟩
  · exact .inr ⟨if_neg hf, if_neg hf⟩
theorem pk_len (l : List P2) : (PkA l).length ≤ 3 * l.length ∧ (PkA l).length % 3 = 0 := by
  rcases pk_cases l with ⟨_, h, _⟩ | ⟨_, h⟩
  · obtain ⟨k, h1, h2⟩ := rpk_len l 0
    rw [h, h1]
    omega
  · rw [h]; simp
theorem up_cases (L : List UInt8) : (UpC L = 0 ∧ UpA L = up L) ∨ (UpC L = 1 ∧ UpA L = []) := by
  unfold UpC UpA
  by_cases hf : L.length % 3 = 0
  · exact .inl ⟨if_pos hf, if_pos hf⟩
  · exact .inr ⟨if_neg hf, if_neg hf⟩
theorem upa_len (L : List UInt8) : (UpA L).length ≤ 256 * L.length := by
  rcases up_cases L with ⟨_, h⟩ | ⟨_, h⟩
  · rw [h]; have := up_len L; omega
  · rw [h]; exact Nat.zero_le _
/-- unpacking what was packed. -/
theorem back_eq {l : List P2} (h : PkC l = 0) : UpA (PkA l) = l ∧ UpC (PkA l) = 0 := by
  rcases pk_cases l with ⟨_, h1, h2⟩ | ⟨h1, _⟩
  · have h3 := (pk_len l).2
    unfold UpA UpC
    rw [if_pos h3, if_pos h3, h1]
    exact ⟨up_pack l h2, rfl⟩
  · omega
/-- packing what was unpacked. -/
theorem forth_eq (L : List UInt8) : PkC (UpA L) = 0 ∧ (PkA (UpA L)).length ≤ L.length := by
  have hf : ∀ x ∈ UpA L, fit2 x := by
    rcases up_cases L with ⟨_, h⟩ | ⟨_, h⟩
    · rw [h]; exact up_fit L
    · rw [h]; intro x hx; simp at hx
  have h1 : PkA (UpA L) = rpk 0 (UpA L) := if_pos hf
  refine ⟨if_pos hf, ?_⟩
  rw [h1]
  rcases up_cases L with ⟨_, h⟩ | ⟨_, h⟩
  · rw [h]; exact pack_up L
  · rw [h]; exact Nat.zero_le _
theorem own_v (a : Option Addr) (n c : Nat) (l : List P2) (w : World) (h : RV 2 enQ w (.slice a n c) l) (hn : n ≤ 6000) :
    Calls Try.prog 12 #[.slice a n c] w fun e w' => (∃ a c, e = .returned (.slice a n c) ∧ RV 2 enQ w' (.slice a n c) l) ∧ Below w.heap.size w w' := by
  have hnl := h.len.1
  have HR := Lib.hid h
  have HNL := Lib.hid hnl
  have HX : Hid (∀ w', Below w.heap.size w w' → RV 2 enQ w' (.slice a n c) l) := Lib.hid (fun w' hb => HR.out.below hb)
  have HLN : Hid (l.length ≤ 1000000) := Lib.hid (by omega)
  clear h hnl
  go_enter Try.func12, Try.ntmps12
  go_wp2_with ((at_builtin; refine wpList_copyR rfl _ _ 34 60 _ 16 rfl Try.underlying34 infoQ rfl (by decide) recQ w.heap.size w.heap.size rfl (ro.heap_new _ _) (Nat.le_refl _) l (HX.out _ (by go_grown)) HLN.out ?_))
  intro v' w' ho hb
  obtain ⟨a2, c2, rfl⟩ := ho.form
  have HO := Lib.hid (OR.rv recQ ho)
  rw [← HNL.out] at HO ⊢
  have HB := Lib.hid hb
  clear ho hb HX
  go_wp2_with fail
  go_ret
  exact ⟨⟨_, _, rfl, HO.out⟩, Below.trans (by go_grown) HB.out⟩
set_option maxRecDepth 20000 in
set_option maxHeartbeats 4000000 in
theorem same_v (a a' : Option Addr) (n n' c c' : Nat) (l : List P2) (w : World) (h : RV 2 enQ w (.slice a n c) l) (h' : RV 2 enQ w (.slice a' n' c') l) :
    Calls Try.prog 16 #[.slice a n c, .slice a' n' c'] w fun e w' => e = .returned (.bool true) ∧ Below w.heap.size w w' := by
  obtain ⟨hnl, hnc, hcm⟩ := h.len
  obtain ⟨hnl', hnc', hcm'⟩ := h'.len
  unfold maxLen at hcm hcm'
  have HR0 := Lib.hid h
  have hnn : n' = n := by omega
  subst hnn
  have HR1 := Lib.hid h'
  have HNL := Lib.hid hnl
  clear h h' hnl hnl'
  go_enter Try.func16, Try.ntmps16
  go_wp2_with fail
  go_loopw [5] (fun iv wr => ∃ (k : Nat), k ≤ n' ∧ iv = .int .i64 (k : Int) ∧ Hid (Below w.heap.size w wr)) (fun iv _ => n' - (intOf iv).toNat)
  case atStart => exact ⟨0, Nat.zero_le _, rfl, Lib.hid (Below.refl _ _)⟩
  case round =>
    obtain ⟨k, hk, rfl, HB⟩ := hrel
    by_cases hlt : k < n'
    · obtain ⟨⟨x1, x2⟩, hx⟩ : ∃ x, l[k]? = some x := ⟨_, List.getElem?_eq_getElem (by rw [← HNL.out]; exact hlt)⟩
      obtain ⟨b, f, rfl, hbl, c0, c1⟩ := RV.two (HR0.out.below HB.out) k _ hx
      obtain ⟨b', f', rfl, _, d0, d1⟩ := RV.two (HR1.out.below HB.out) k _ hx
      dsimp only at c0 c1 d0 d1
      have hltI : (k : Int) < (n' : Int) := by omega
      have hne := pk_ne x1 x2 x1 x2 true (by simp)
      simp only [Bool.not_true] at hne
      clear hx
      go_wp2_with fail
      go_quiet (fail)
      go_wp2_with fail
      go_roundw
      case rel => exact ⟨k + 1, by omega, by go_num, Lib.hid (tr3 HB.out (below_drewN wr nq))⟩
      case measure => simp [intOf]; omega
    · obtain rfl : n' = k := by omega
      go_wp2_with fail
      go_ret
      exact ⟨rfl, HB.out⟩
abbrev lw : List P2 := [(1, 0), (1, 0), (2, 3)]
theorem rl2 : RL [((1, 0) : P2), (1, 0)] 1 := RL.per (by decide) (by decide) (fun i h1 h2 => by
  obtain rfl : i = 1 := by simp at h2; omega
  rfl) (fun n' h1 h2 => by omega)
theorem rl3 : RL lw 3 := RL.none (l := lw) (fun n' h1 h2 h => by
  have h3 : n' < 3 := h2
  have := h 2 (by omega) (by decide)
  rcases (show n' = 1 ∨ n' = 2 by omega) with rfl | rfl
  · simp at this
  · simp at this)
theorem lw_pk : PkA lw = [1, 0, 1, 2, 3, 0] ∧ PkC lw = 0 := by
  have hf : ∀ x ∈ lw, fit2 x := by
    intro x hx
    simp at hx
    rcases hx with rfl | rfl <;> exact ⟨⟨by decide, by decide⟩, ⟨by decide, by decide⟩⟩
  refine ⟨(if_pos hf).trans ?_, if_pos hf⟩
  decide
theorem lw_rv (w : World) : RV 2 enQ (w.alloc (.cells #[.int .i64 1, .int .i64 0, .int .i64 1, .int .i64 0, .int .i64 2, .int .i64 3] 60)) (.slice (some ⟨w.heap.size, 0, none⟩) 3 3) lw := by
  refine ⟨some ⟨w.heap.size, 0, none⟩, 3, rfl, Nat.le_refl _, by unfold maxLen; omega, (fun h => by cases h), fun i x hx => ⟨w.heap.size, 0, rfl, by simp, fun j u hu => ?_⟩⟩
  rw [ro.cel (ro.heap_new w _)]
  match i, hx with
  | 0, hx => cases hx; match j, hu with
    | 0, hu => exact hu
    | 1, hu => exact hu
    | j + 2, hu => simp [enQ] at hu
  | 1, hx => cases hx; match j, hu with
    | 0, hu => exact hu
    | 1, hu => exact hu
    | j + 2, hu => simp [enQ] at hu
  | 2, hx => cases hx; match j, hu with
    | 0, hu => exact hu
    | 1, hu => exact hu
    | j + 2, hu => simp [enQ] at hu
  | i + 3, hx => simp at hx
theorem lw_rv2 {w : World} {g : Nat} (h : RV 2 enQ w (.slice (some ⟨g, 0, none⟩) 3 3) lw) : RV 2 enQ w (.slice (some ⟨g, 0, none⟩) 2 3) [(1, 0), (1, 0)] := by
  refine ⟨some ⟨g, 0, none⟩, 3, rfl, by decide, by unfold maxLen; omega, (fun h => by cases h), fun i x hx => ?_⟩
  have hx' : lw[i]? = some x := by
    match i, hx with
    | 0, hx => exact hx
    | 1, hx => exact hx
    | i + 2, hx => simp at hx
  exact h.at i x hx'
set_option maxRecDepth 20000 in
set_option maxHeartbeats 4000000 in
theorem works_v (w : World) : Calls Try.prog 10 #[] w fun e w' => e = .returned (.bool true) ∧ Below w.heap.size w w' := by
  obtain ⟨W1, hW1⟩ : ∃ W1, w.alloc (.cells #[.int .i64 1, .int .i64 0, .int .i64 1, .int .i64 0, .int .i64 2, .int .i64 3] 60) = W1 := ⟨_, rfl⟩
  obtain ⟨g, hg⟩ : ∃ g, w.heap.size = g := ⟨_, rfl⟩
  have hrv : RV 2 enQ W1 (.slice (some ⟨g, 0, none⟩) 3 3) lw := by rw [← hW1, ← hg]; exact lw_rv w
  have hb1 : Below w.heap.size w W1 := by rw [← hW1]; go_grown
  have HRV := Lib.hid hrv
  have HB1 := Lib.hid hb1
  have HW1 := Lib.hid hW1
  have HG := Lib.hid hg
  have HP := Lib.hid (pack_v _ _ _ _ W1 hrv (by omega))
  clear hrv hb1 hW1 hg
  go_enter Try.func10, Try.ntmps10
  go_wp2_with fail
  rw [HW1.out, HG.out]
  refine HP.out.mono ?_
  rintro e w2 h2
  obtain ⟨he2, hb2⟩ := pk_uni h2
  rw [lw_pk.1, lw_pk.2] at he2
  subst he2
  have HB2 := Lib.hid hb2
  have HU := Lib.hid (unpack_v [1, 0, 1, 2, 3, 0] w2 (by decide))
  clear h2 hb2 HP HW1 HG
  go_wp2_with fail
  refine HU.out.mono ?_
  rintro e w3 h3
  obtain ⟨⟨ua, un, uc, he3, hr3⟩, hb3⟩ := up_uni h3
  have e1 : UpA [1, 0, 1, 2, 3, 0] = lw := by decide
  have e2 : UpC [1, 0, 1, 2, 3, 0] = 0 := by decide
  rw [e2] at he3
  rw [e1] at hr3
  subst he3
  have HB3 := Lib.hid (tr3 HB2.out hb3)
  have HS := Lib.hid (same_v _ _ _ _ _ _ lw w3 hr3 (HRV.out.below HB3.out))
  clear h3 hr3 hb3 e1 e2 HU
  go_wp2_with fail
  refine HS.out.mono ?_
  rintro e w4 ⟨rfl, hb4⟩
  have HB4 := Lib.hid (tr3 HB3.out hb4)
  have HL1 := Lib.hid (loops_v _ _ _ _ w4 (lw_rv2 (HRV.out.below HB4.out)) (by omega))
  clear hb4 HS
  go_wp2_with fail
  refine HL1.out.mono ?_
  rintro e w5 ⟨v, rfl, hv, hb5⟩
  obtain rfl : v = 1 := RL.eq hv rl2
  have HB5 := Lib.hid (tr3 HB4.out hb5)
  have HL2 := Lib.hid (loops_v _ _ _ _ w5 (HRV.out.below HB5.out) (by omega))
  clear hb5 HL1 hv
  go_wp2_with fail
  refine HL2.out.mono ?_
  rintro e w6 ⟨v, rfl, hv, hb6⟩
  obtain rfl : v = 3 := RL.eq hv rl3
  have HB6 := Lib.hid (tr3 HB5.out hb6)
  clear hb6 HL2 hv
  go_wp2_with fail
  go_ret
  exact ⟨rfl, tr3 HB1.out HB6.out⟩
end Go.Proofs.Ytokkgfefiblmiaa.rp
