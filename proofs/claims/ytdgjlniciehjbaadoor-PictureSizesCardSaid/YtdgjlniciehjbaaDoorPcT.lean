/- Rows in writing (layer 38): pure. -/
import Derived.Test.YtdgjlniciehjbaaDoorPcS
import Derived.Test.YtdgjlniciehjbaaDoorWdN
import Derived.Test.YtdgjlniciehjbaaDoorWdR
namespace Go.Proofs.YtdgjlniciehjbaaDoor.pc
open Go.ChangeShapes Go.WideShapes Go.ChangeAt Go.RowKit
open Go.Proofs.YtdgjlniciehjbaaDoor.gr (C2 d2 chkE Rts Rt chkE_rts)
open Go.Proofs.YtdgjlniciehjbaaDoor.wd
set_option linter.unusedVariables false
set_option linter.unusedSimpArgs false
/-- a cell in writing. -/
def cellS (c : C2) (first : Bool) : List UInt8 := if c.2 then 62 :: Lib.itoa c.1 else if first then Lib.itoa c.1 else 45 :: Lib.itoa c.1
/-- the first cells of a row, each in writing. -/
def wdsN (l : List C2) : Nat → List (List UInt8)
  | 0 => []
  | n + 1 => wdsN l n ++ [cellS (l.getD n d2) (n == 0)]
def parN (l : List C2) : Nat → List UInt8
  | 0 => []
  | n + 1 => (if 0 < n then parN l n ++ [32] else parN l n) ++ cellS (l.getD n d2) (n == 0)
def rowT (l : List C2) : List UInt8 := Lib.join (wdsN l l.length) [32]
def txtN (L : List (List C2)) : Nat → List UInt8
  | 0 => []
  | n + 1 => txtN L n ++ rowT (L.getD n []) ++ [10]
def txtV (L : List (List C2)) : List UInt8 := txtN L L.length
theorem wds_len (l : List C2) : ∀ n, (wdsN l n).length = n
  | 0 => rfl
  | n + 1 => by rw [wdsN, List.length_append, wds_len l n]; rfl
theorem par_join (l : List C2) : ∀ n, Lib.join (wdsN l n) [32] = parN l n
  | 0 => rfl
  | 1 => by
    rw [wdsN, parN]
    simp [wdsN, parN, Lib.join_one]
  | n + 2 => by
    rw [wdsN, parN, join_snoc _ _ _ (by intro e; have := wds_len l (n + 1); rw [e] at this; simp at this), par_join l (n + 1), if_pos (by omega)]
theorem dec7 (u : Nat) (h : u ≤ 1048575) : (Lib.decDigits u).length ≤ 7 := dec_len 6 u (by omega)
theorem itoa7 (v : Int) (h0 : 0 ≤ v) (h : v ≤ 1048575) : (Lib.itoa v).length ≤ 7 := by
  rw [itoa_pos h0]
  exact dec7 _ (by omega)
theorem cell_len (c : C2) (f : Bool) (h0 : 0 ≤ c.1) (h : c.1 ≤ 1048575) : (cellS c f).length ≤ 8 := by
  have := itoa7 c.1 h0 h
  unfold cellS
  split
  · simp; omega
  · split
    · omega
    · simp; omega
theorem par_len {l : List C2} (hl : Rt l) : ∀ n, n ≤ l.length → (parN l n).length ≤ 9 * n
  | 0, _ => by simp [parN]
  | n + 1, h => by
    have h1 := par_len hl n (by omega)
    have h2 := cell_len (l.getD n d2) (n == 0) (hl.nn n (by omega)) (hl.t n (by omega))
    rw [parN]
    split
    · simp only [List.length_append, List.length_cons, List.length_nil]; omega
    · simp only [List.length_append, List.length_cons, List.length_nil]; omega
theorem row_len {l : List C2} (hl : Rt l) : (rowT l).length ≤ 900 := by
  unfold rowT
  rw [par_join]
  have := par_len hl l.length (Nat.le_refl _)
  have := hl.m
  omega
theorem txt_len {L : List (List C2)} (hL : Rts L) : ∀ n, n ≤ L.length → (txtN L n).length ≤ 901 * n
  | 0, _ => by simp [txtN]
  | n + 1, h => by
    have h1 := txt_len hL n (by omega)
    have h2 := row_len (hL.r n (by omega))
    rw [txtN]
    simp only [List.length_append, List.length_cons, List.length_nil]
    omega
theorem I64c {l : List C2} (hl : Rt l) {n : Nat} (h : n < l.length) : I64 (l.getD n d2).1 := by
  have h1 := hl.nn n h
  have h2 := hl.t n h
  unfold I64
  omega
end Go.Proofs.YtdgjlniciehjbaaDoor.pc
