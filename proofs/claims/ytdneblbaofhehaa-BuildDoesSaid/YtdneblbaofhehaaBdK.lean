/- The code of one jump among many other instructions, and what its end is (layer 7). -/
import Derived.Test.YtdneblbaofhehaaBdW
namespace Go.Proofs.Ytdneblbaofhehaa.bd
open Go.ChangeShapes Go.WideShapes Go.ChangeAt Go.RowKit Go.Maps
open Go.Proofs.Ytdneblbaofhehaa.ro
open Go.Proofs.Ytdneblbaofhehaa.pr
set_option linter.unusedVariables false
set_option linter.unusedSimpArgs false
abbrev sy : I4 := (21, 0, 0, 0)
def cJ (p q : Nat) (a : Int) : List I4 := List.replicate p sy ++ (19, 3, a, 0) :: (List.replicate q sy ++ [(0, 0, 0, 0)])
theorem cJ_len (p q : Nat) (a : Int) : (cJ p q a).length = p + q + 2 := by
  simp [cJ]
  omega
theorem cJ_get (p q k : Nat) (a : Int) (h : k < p + q + 2) : (cJ p q a)[k]? = some (if k = p then (19, 3, a, 0) else if k = p + q + 1 then (0, 0, 0, 0) else sy) := by
  unfold cJ
  by_cases h1 : k < p
  · rw [List.getElem?_append_left (by simpa using h1), List.getElem?_replicate, if_pos h1, if_neg (by omega), if_neg (by omega)]
  · rw [List.getElem?_append_right (by simp; omega), List.length_replicate]
    by_cases h2 : k = p
    · subst h2
      rw [if_pos rfl, Nat.sub_self]
      rfl
    · obtain ⟨d, rfl⟩ : ∃ d, k = p + 1 + d := ⟨k - p - 1, by omega⟩
      rw [show p + 1 + d - p = d + 1 by omega, List.getElem?_cons_succ, if_neg h2]
      by_cases h3 : d < q
      · rw [List.getElem?_append_left (by simpa using h3), List.getElem?_replicate, if_pos h3, if_neg (by omega)]
      · have hd : d = q := by omega
        subst hd
        rw [List.getElem?_append_right (by simp), List.length_replicate, Nat.sub_self, if_pos (by omega)]
        rfl
theorem cJ_getD (p q k : Nat) (a : Int) (h : k < p + q + 2) : (cJ p q a).getD k d4 = if k = p then (19, 3, a, 0) else if k = p + q + 1 then (0, 0, 0, 0) else sy := by
  rw [List.getD_eq_getElem?_getD, cJ_get p q k a h]
  rfl
theorem ck_sy : ck4 sy = 0 := by decide
theorem ck_re : ck4 (0, 0, 0, 0) = 0 := by decide
theorem ck_ze (a : Int) (h0 : 0 ≤ a) (h1 : a < 200) : ck4 (19, 3, a, 0) = 0 := by
  simp [ck4, ins.chkI, ins.frmI, ins.frm, ins.chkL, ins.okL, h0, h1]
theorem ld_sy (p q : Nat) : ld4 sy p q = true := rfl
theorem ld_re (p q : Nat) : ld4 (0, 0, 0, 0) p q = true := rfl
theorem ld_ze (a : Int) (p q : Nat) (h : a < p) : ld4 (19, 3, a, 0) p q = true := by
  have h1 : ¬ (p : Int) ≤ a := by omega
  simp [ld4, leadsI, ins.frmI, ins.frm, ldL, ins.three, h1]
theorem cJ_ins (p q : Nat) (a : Int) (n : Nat) (h0 : 0 ≤ a) (h1 : a < p + q + 2) (h2 : p + q + 2 ≤ 200) : ∀ k, k ≤ p + q + 2 → insR (cJ p q a) n k = 0
  | 0, _ => rfl
  | k + 1, hk => by
    rw [insR, cJ_ins p q a n h0 h1 h2 k (by omega), cJ_getD p q k a (by omega), cJ_len]
    by_cases e : k = p
    · rw [if_pos e, ck_ze a h0 (by omega), ld_ze a _ n (by omega)]
      rfl
    · rw [if_neg e]
      by_cases e2 : k = p + q + 1
      · rw [if_pos e2, ck_re, ld_re]
        rfl
      · rw [if_neg e2, ck_sy, ld_sy]
        rfl
theorem cJ_ok (p q : Nat) (a : Int) (h0 : 0 ≤ a) (h1 : a < p + q + 2) (h2 : p + q + 2 ≤ 200) : prE 0 [cJ p q a] = 0 := by
  have e1 : fnE (cJ p q a) 1 = 0 := by
    have hl : lenE (p + q + 2) = 0 := by
      unfold lenE
      rw [if_neg (by omega), if_neg (by omega)]
    have he : (cJ p q a).getD (p + q + 2 - 1) d4 = (0, 0, 0, 0) := by rw [cJ_getD p q _ a (by omega), if_neg (by omega), if_pos (by omega)]
    unfold fnE
    rw [cJ_len, cJ_ins p q a 1 h0 h1 h2 _ (Nat.le_refl _), he, hl]
    rfl
  unfold prE
  show (if cntE 0 1 ≠ 0 then cntE 0 1 else (if (0 : Int) ≠ 0 then (0 : Int) else fnE (cJ p q a) 1)) = 0
  rw [e1]
  rfl
/-- the code ahead of the targets being set. -/
theorem fill_J (p q : Nat) (a : Int) : fill1 (cJ p q 0) p a = cJ p q a := by
  unfold fill1
  rw [cJ_getD p q p 0 (by omega), if_pos rfl]
  show (cJ p q 0).set p (19, 3, a, 0) = _
  unfold cJ
  rw [List.set_append, if_neg (by simp), List.length_replicate, Nat.sub_self]
  rfl
theorem led_J (p q : Nat) (a : Int) (s : ByteArray) (f : ByteArray → Option Int) (hf : f s = some a) : ledR f [((p : Int), s)] (cJ p q 0) = some (cJ p q a) := by
  show (match f s with | none => none | some b => ledR f [] (fill1 (cJ p q 0) (p : Int).toNat b)) = _
  rw [hf]
  show some (fill1 (cJ p q 0) (p : Int).toNat a) = _
  rw [Int.toNat_natCast, fill_J]
/-- so many instructions more. -/
theorem rep_succ (l : List I4) (k : Nat) : l ++ List.replicate k sy ++ [sy] = l ++ List.replicate (k + 1) sy := by
  rw [List.append_assoc, List.replicate_succ']
/-- how many jumps there are among the first k. -/
def mny (p k : Nat) : Int := if p < k then 1 else 0
end Go.Proofs.Ytdneblbaofhehaa.bd
