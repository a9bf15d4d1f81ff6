/- As many signs as cells (layer 38): pure. -/
import Derived.Test.YtdgjlniciehjbaaDoorPcK
namespace Go.Proofs.YtdgjlniciehjbaaDoor.pc
open Go.ChangeShapes Go.WideShapes Go.ChangeAt Go.RowKit
open Go.Proofs.YtdgjlniciehjbaaDoor.gr (C2 d2 chkE Rts Rt chkE_rts)
open Go.Proofs.YtdgjlniciehjbaaDoor.st Go.Proofs.YtdgjlniciehjbaaDoor.wd
set_option linter.unusedVariables false
set_option linter.unusedSimpArgs false
theorem sgnN_in (l : List C2) (p : Int) : ∀ n, sgnN l p n = 46 ∨ sgnN l p n = 60 ∨ sgnN l p n = 111
  | 0 => .inl rfl
  | n + 1 => by
    rw [sgnN]
    split
    · unfold sgn
      split
      · exact .inr (.inl rfl)
      · exact .inr (.inr rfl)
    · exact sgnN_in l p n
theorem char_no10 (l : List C2) : ∀ c ∈ charR l, c ≠ 10 := by
  intro c hc
  unfold charR sgs at hc
  obtain ⟨i, _, rfl⟩ := List.mem_map.1 hc
  rcases sgnN_in l (i : Int) l.length with h | h | h <;> rw [h] <;> decide
theorem chN_txt (L : List (List C2)) : ∀ n, n ≤ L.length → chN L n = txt ((L.take n).map charR)
  | 0, _ => by simp [chN, txt]
  | n + 1, h => by
    rw [chN, chN_txt L n (by omega), List.take_succ_eq_append_getElem (by omega), List.map_append, List.map_singleton, txt_snoc, List.append_assoc, List.append_assoc]
    congr 2
    rw [List.getD_eq_getElem?_getD, List.getElem?_eq_getElem (by omega)]
    rfl
theorem lin_ch (L : List (List C2)) : linV (chN L L.length) = L.map charR := by
  rw [chN_txt L _ (Nat.le_refl _), List.take_length]
  refine lin_txt _ (fun x hx => ?_)
  obtain ⟨l, _, rfl⟩ := List.mem_map.1 hx
  exact char_no10 l
def isS (c : UInt8) : Bool := c != 46
def isW (c : UInt8) : Bool := c == 60
theorem cnt_pad (q : UInt8 → Bool) (hq : q 46 = false) {l : List C2} (hl : Rt l) {j : Nat} (hj : j ≤ l.length) : ∀ d, (sgs l (wid l j + d) j).countP q = (sgs l (wid l j) j).countP q
  | 0 => rfl
  | d + 1 => by
    rw [← Nat.add_assoc, sgs_succ, List.countP_append, cnt_pad q hq hl hj d, sgn_dot hl j hj _ (by omega)]
    simp [hq]
theorem cnt_cells {l : List C2} (hl : Rt l) : ∀ j, j ≤ l.length → (sgs l (wid l j) j).countP isS = j ∧ (sgs l (wid l j) j).countP isW = (l.take j).countP (·.2)
  | 0, _ => by simp [sgs, wid]
  | j + 1, h => by
    obtain ⟨h1, h2⟩ := cnt_cells hl j (by omega)
    have hw := wid_le hl (n := j) (by omega)
    have h0 := hl.nn j (by omega)
    rw [sgs_cell hl (n := j) (by omega)]
    obtain ⟨d, hd⟩ : ∃ d, (l.getD j d2).1.toNat = wid l j + d := ⟨(l.getD j d2).1.toNat - wid l j, by omega⟩
    rw [hd, List.countP_append, List.countP_append, cnt_pad isS (by decide) hl (by omega), cnt_pad isW (by decide) hl (by omega), h1, h2]
    rw [List.take_succ_eq_append_getElem (by omega), List.countP_append]
    have e : l[j] = l.getD j d2 := by rw [List.getD_eq_getElem?_getD, List.getElem?_eq_getElem (by omega)]; rfl
    rw [e]
    obtain ⟨⟨v, b⟩, hc⟩ : ∃ c, l.getD j d2 = c := ⟨_, rfl⟩
    rw [hc]
    cases b with
    | true => simp [sgn, isS, isW]
    | false => simp [sgn, isS, isW]
theorem char_cnt {l : List C2} (hl : Rt l) : (charR l).countP isS = l.length ∧ (charR l).countP isW = l.countP (·.2) := by
  have := cnt_cells hl l.length (Nat.le_refl _)
  rw [List.take_length] at this
  exact this
theorem take_cnt {α : Type} (q : α → Bool) (l : List α) (d : α) (p : Nat) (h : p < l.length) : (l.take (p + 1)).countP q = (l.take p).countP q + if q (l.getD p d) then 1 else 0 := by
  rw [List.take_succ_eq_append_getElem h, List.countP_append, List.getD_eq_getElem?_getD, List.getElem?_eq_getElem h]
  simp [List.countP_cons]
end Go.Proofs.YtdgjlniciehjbaaDoor.pc
