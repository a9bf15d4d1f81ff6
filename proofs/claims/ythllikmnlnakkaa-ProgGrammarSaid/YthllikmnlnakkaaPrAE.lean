/- Pure: the grammar, by itself (layer 4). -/
import Derived.Test.YthllikmnlnakkaaPrAB
import Derived.Test.YthllikmnlnakkaaPrX
namespace Go.Proofs.Ythllikmnlnakkaa.pr
open Go.ChangeShapes Go.WideShapes Go.ChangeAt Go.RowKit
open Go.Proofs.Ythllikmnlnakkaa.bin Go.Proofs.Ythllikmnlnakkaa.bits Go.Proofs.Ythllikmnlnakkaa.ins
set_option linter.unusedVariables false
set_option linter.unusedSimpArgs false
/-- may the byte stand there? -/
def digB (c : UInt8) (hi n code funcs : Nat) : Bool :=
  if c = 114 then decide (n ≤ 7) else if c = 102 then decide (n < funcs) && decide (n ≤ 15) else if c = 116 then decide (256 * hi + n < code) && decide (256 * hi + n ≤ 199) else true
/-- the bytes of a form's letters: what lies behind them, or none. -/
def frR : List UInt8 → List UInt8 → Nat → Nat → Option (List UInt8)
  | [], r, _, _ => some r
  | c :: f, r, code, funcs => if wd c = 2 then (if digB c (r.getD 0 0).toNat (r.getD 1 0).toNat code funcs then frR f (r.drop 2) code funcs else none) else (if digB c 0 (r.getD 0 0).toNat code funcs then frR f (r.drop 1) code funcs else none)
def zs (r : List UInt8) : Bool := r.all (· == 0)
def endB (b : UInt8) : Bool := b == 0 || b == 18 || b == 25
def insB (w : List UInt8) (code funcs : Nat) (last : Bool) : Bool :=
  if 25 < (w.getD 0 0).toNat then false else match frR (frm (w.getD 0 0).toNat) (w.drop 1) code funcs with
  | none => false
  | some z => zs z && (!last || endB (w.getD 0 0))
def rI (code funcs : Nat) : Nat → List UInt8 → Bool
  | 0, _ => true
  | j + 1, r => insB (r.take 4) code funcs (j == 0) && rI code funcs j (r.drop 4)
def rF (funcs : Nat) : Nat → List UInt8 → Bool
  | 0, r => r.isEmpty
  | k + 1, r => if r.length < 2 then false else if ofB (r.take 2) < 1 ∨ 200 < ofB (r.take 2) ∨ (r.drop 2).length < 4 * ofB (r.take 2) then false else rI (ofB (r.take 2)) funcs (ofB (r.take 2)) (r.drop 2) && rF funcs k ((r.drop 2).drop (4 * ofB (r.take 2)))
def rightB (s : List UInt8) : Bool :=
  if s.length < 6 then false else if s.take 3 ≠ [72, 82, 1] then false else if gN s < 1 ∨ 16 < gN s ∨ 256 < gM s then false else rF (gN s) (gN s) (s.drop 6)
theorem frR_iff (code funcs : Nat) : ∀ (f r : List UInt8), (∀ x ∈ f, Lt x) → ins.sumW f ≤ r.length →
    frR f r code funcs = if (readL f r).1 = 0 ∧ ldL f (readL f r).2.1 code funcs = true then some (readL f r).2.2 else none := by
  intro f
  induction f with
  | nil => intro r _ _; simp [frR, readL, ldL]
  | cons c f ih =>
    intro r hL hs
    have hf : ∀ x ∈ f, Lt x := fun x hx => hL x (List.mem_cons_of_mem _ hx)
    have hs' : wd c + ins.sumW f ≤ r.length := hs
    rw [frR, readL]
    rcases hL c (by simp) with rfl | rfl | rfl | rfl
    · -- r
      obtain ⟨b, t, rfl⟩ : ∃ b t, r = b :: t := by
        match r, (show 1 ≤ r.length from Nat.le_trans (Nat.le_add_right 1 _) hs') with
        | b :: t, _ => exact ⟨b, t, rfl⟩
      have hw : wd (114 : UInt8) = 1 := rfl
      have hv : valB 114 ((b :: t).take 1) = (b.toNat : Int) := by rw [valB_o _ _ (by decide)]; exact ofB_one b
      have ih' := ih t hf (by rw [hw] at hs'; simp at hs'; omega)
      rw [hw, if_neg (by decide), hv]
      simp only [List.drop_succ_cons, List.drop_zero, List.getD_cons_zero]
      have hd : digB 114 0 b.toNat code funcs = decide (b.toNat ≤ 7) := rfl
      have ho : okL 114 (b.toNat : Int) = decide (b.toNat ≤ 7) := by unfold okL; rw [if_pos rfl]; apply decide_eq_decide.2; omega
      rw [hd, ho]
      by_cases h7 : b.toNat ≤ 7
      · simp only [h7, decide_true, if_true]
        rw [ih', ldL]
        simp
      · simp [h7]
    · -- n
      obtain ⟨a, b, t, rfl⟩ : ∃ a b t, r = a :: b :: t := by
        match r, (show 2 ≤ r.length from Nat.le_trans (Nat.le_add_right 2 _) hs') with
        | a :: b :: t, _ => exact ⟨a, b, t, rfl⟩
      have hw : wd (110 : UInt8) = 2 := rfl
      have hv : valB 110 ((a :: b :: t).take 2) = sgV (ofB [a, b]) 2 := valB_n _
      have ih' := ih t hf (by rw [hw] at hs'; simp at hs'; omega)
      rw [hw, if_pos rfl, hv]
      simp only [List.drop_succ_cons, List.drop_zero, List.getD_cons_zero, List.getD_cons_succ]
      have hd : digB 110 a.toNat b.toNat code funcs = true := rfl
      have ho : okL 110 (sgV (ofB [a, b]) 2) = true := by
        have ha := a.toNat_lt
        have hb := b.toNat_lt
        have h2 := ofB2 a b
        unfold okL
        rw [if_neg (by decide), if_neg (by decide), if_neg (by decide)]
        apply decide_eq_true
        unfold sgV
        simp [pw]
        split <;> omega
      rw [hd, ho]
      simp only [if_true]
      rw [ih', ldL]
      simp
    · -- t
      obtain ⟨a, b, t, rfl⟩ : ∃ a b t, r = a :: b :: t := by
        match r, (show 2 ≤ r.length from Nat.le_trans (Nat.le_add_right 2 _) hs') with
        | a :: b :: t, _ => exact ⟨a, b, t, rfl⟩
      have hw : wd (116 : UInt8) = 2 := rfl
      have h2 := ofB2 a b
      obtain ⟨n, hn⟩ : ∃ n, ofB [a, b] = n := ⟨_, rfl⟩
      have hv : valB 116 ((a :: b :: t).take 2) = (n : Int) := by rw [valB_o _ _ (by decide), ← hn]; rfl
      rw [hn] at h2
      have ih' := ih t hf (by rw [hw] at hs'; simp at hs'; omega)
      rw [hw, if_pos rfl, hv]
      simp only [List.drop_succ_cons, List.drop_zero, List.getD_cons_zero, List.getD_cons_succ]
      have hd : digB 116 a.toNat b.toNat code funcs = (decide (n < code) && decide (n ≤ 199)) := by
        show (decide (256 * a.toNat + b.toNat < code) && decide (256 * a.toNat + b.toNat ≤ 199)) = _
        rw [show 256 * a.toNat + b.toNat = n by omega]
      have ho : okL 116 (n : Int) = decide (n ≤ 199) := by
        unfold okL
        rw [if_neg (by decide), if_neg (by decide), if_pos rfl]
        apply decide_eq_decide.2; omega
      rw [hd, ho]
      have hld : ldL (116 :: f) ((n : Int) :: (readL f t).2.1) code funcs = (decide (n < code) && ldL f (readL f t).2.1 code funcs) := by
        rw [ldL]
        by_cases h3 : n < code
        · rw [if_neg (by
            rintro (⟨_, h⟩ | ⟨h, _⟩)
            · omega
            · exact absurd h (by decide))]
          simp [h3]
        · rw [if_pos (Or.inl ⟨rfl, by omega⟩)]
          simp [h3]
      by_cases h1 : n ≤ 199
      · by_cases h3 : n < code
        · simp only [h1, h3, decide_true, Bool.and_self, if_true]
          rw [ih', hld]
          simp [h3]
        · simp only [h1, h3, decide_true, decide_false, Bool.false_and, if_true]
          rw [hld]
          simp [h3]
      · simp [h1]
    · -- f
      obtain ⟨b, t, rfl⟩ : ∃ b t, r = b :: t := by
        match r, (show 1 ≤ r.length from Nat.le_trans (Nat.le_add_right 1 _) hs') with
        | b :: t, _ => exact ⟨b, t, rfl⟩
      have hw : wd (102 : UInt8) = 1 := rfl
      have hv : valB 102 ((b :: t).take 1) = (b.toNat : Int) := by rw [valB_o _ _ (by decide)]; exact ofB_one b
      have ih' := ih t hf (by rw [hw] at hs'; simp at hs'; omega)
      rw [hw, if_neg (by decide), hv]
      simp only [List.drop_succ_cons, List.drop_zero, List.getD_cons_zero]
      have hd : digB 102 0 b.toNat code funcs = (decide (b.toNat < funcs) && decide (b.toNat ≤ 15)) := rfl
      have ho : okL 102 (b.toNat : Int) = decide (b.toNat ≤ 15) := by unfold okL; rw [if_neg (by decide), if_pos rfl]; apply decide_eq_decide.2; omega
      rw [hd, ho]
      have hld : ldL (102 :: f) ((b.toNat : Int) :: (readL f t).2.1) code funcs = (decide (b.toNat < funcs) && ldL f (readL f t).2.1 code funcs) := by
        rw [ldL]
        by_cases h3 : b.toNat < funcs
        · rw [if_neg (by
            rintro (⟨h, _⟩ | ⟨_, h⟩)
            · exact absurd h (by decide)
            · omega)]
          simp [h3]
        · rw [if_pos (Or.inr ⟨rfl, by omega⟩)]
          simp [h3]
      by_cases h1 : b.toNat ≤ 15
      · by_cases h3 : b.toNat < funcs
        · simp only [h1, h3, decide_true, Bool.and_self, if_true]
          rw [ih', hld]
          simp [h3]
        · simp only [h1, h3, decide_true, decide_false, Bool.false_and, if_true]
          rw [hld]
          simp [h3]
      · simp [h1]
end Go.Proofs.Ythllikmnlnakkaa.pr
