/- Scripts in short, as pure functions (layer 43). -/
import Derived.Test.YtokkgfefiblmiaaPut
import Derived.Test.YtokkgfefiblmiaaCut
import Derived.Test.YtokkgfefiblmiaaRecs
namespace Go.Proofs.Ytokkgfefiblmiaa.rp
open Go.ChangeShapes Go.WideShapes Go.ChangeAt Go.RowKit
set_option linter.unusedVariables false
set_option linter.unusedSimpArgs false
abbrev P2 := Int × Int
def enQ (x : P2) : List Value := [.int .i64 x.1, .int .i64 x.2]
theorem recQ : Rec 2 enQ := ⟨by omega, fun _ => rfl, fun x u hu => by simp [enQ] at hu; rcases hu with rfl | rfl <;> rfl⟩
theorem infoQ : (Try.prog.info? 60).map (fun i => (i.zero, i.size, i.bytes)) = some (some (.agg #[.int .i64 0, .int .i64 0]), 2, 16) := by kernel_rfl
def fit (n : Int) : Prop := 0 ≤ n ∧ n ≤ 255
def fit2 (x : P2) : Prop := fit x.1 ∧ fit x.2
/-- a number's byte. -/
def by1 (n : Int) : UInt8 := UInt8.ofNat n.toNat
def tri (x : P2) (m : Nat) : List UInt8 := [by1 x.1, by1 x.2, UInt8.ofNat m]
/-- what is left to pack, m of the first one being told already. -/
def rpk : Nat → List P2 → List UInt8
  | _, [] => []
  | m, [x] => tri x m
  | m, x :: y :: r => if y = x ∧ m + 1 < 256 then rpk (m + 1) (y :: r) else tri x m ++ rpk 0 (y :: r)
def up : List UInt8 → List P2
  | a :: b :: c :: r => List.replicate (c.toNat + 1) ((a.toNat : Int), (b.toNat : Int)) ++ up r
  | _ => []
theorem by1_nat {n : Int} (h : fit n) : ((by1 n).toNat : Int) = n := by
  unfold by1
  rw [UInt8.toNat_ofNat']
  obtain ⟨h1, h2⟩ := h
  have : n.toNat % 2 ^ 8 = n.toNat := Nat.mod_eq_of_lt (by omega)
  rw [this]
  omega
theorem rpk_same {m : Nat} {x : P2} {r : List P2} (h : m + 1 < 256) : rpk m (x :: x :: r) = rpk (m + 1) (x :: r) := by
  rw [rpk, if_pos ⟨rfl, h⟩]
theorem rpk_end {m : Nat} {x : P2} {r : List P2} (h : ∀ y z, r = y :: z → y = x → 256 ≤ m + 1) : rpk m (x :: r) = tri x m ++ rpk 0 r := by
  cases r with
  | nil => simp [rpk]
  | cons y z =>
    rw [rpk, if_neg]
    rintro ⟨e, h2⟩
    have := h y z rfl e
    omega
/-- what was packed is what it was. -/
theorem up_rpk : ∀ (l : List P2) (m : Nat), m < 256 → (∀ x ∈ l, fit2 x) → ∀ x r, l = x :: r → up (rpk m l) = List.replicate m x ++ l
  | [], m, _, _, x, r, h => by cases h
  | [x], m, hm, hf, x', r, h => by
    cases h
    have h1 := (hf x (by simp)).1
    have h2 := (hf x (by simp)).2
    show List.replicate ((UInt8.ofNat m).toNat + 1) (((by1 x.1).toNat : Int), ((by1 x.2).toNat : Int)) ++ up [] = _
    rw [by1_nat h1, by1_nat h2, UInt8.toNat_ofNat', Nat.mod_eq_of_lt (by omega : m < 2 ^ 8), List.replicate_succ']
    simp [up]
  | x :: y :: r, m, hm, hf, x', r', h => by
    cases h
    have hf' : ∀ q ∈ y :: r, fit2 q := fun q hq => hf q (List.mem_cons_of_mem _ hq)
    by_cases e : y = x ∧ m + 1 < 256
    · rw [rpk, if_pos e, up_rpk (y :: r) (m + 1) e.2 hf' y r rfl, e.1, List.replicate_succ']
      simp
    · rw [rpk, if_neg e]
      have h1 := (hf x (by simp)).1
      have h2 := (hf x (by simp)).2
      show List.replicate ((UInt8.ofNat m).toNat + 1) (((by1 x.1).toNat : Int), ((by1 x.2).toNat : Int)) ++ up (rpk 0 (y :: r)) = _
      rw [by1_nat h1, by1_nat h2, UInt8.toNat_ofNat', Nat.mod_eq_of_lt (by omega : m < 2 ^ 8), up_rpk (y :: r) 0 (by omega) hf' y r rfl, List.replicate_succ']
      simp
theorem up_pack (l : List P2) (hf : ∀ x ∈ l, fit2 x) : up (rpk 0 l) = l := by
  cases l with
  | nil => rfl
  | cons x r => rw [up_rpk (x :: r) 0 (by omega) hf x r rfl]; rfl
theorem rpk_len : ∀ (l : List P2) (m : Nat), ∃ k, (rpk m l).length = 3 * k ∧ k ≤ l.length
  | [], m => ⟨0, rfl, Nat.le_refl _⟩
  | [x], m => ⟨1, rfl, Nat.le_refl _⟩
  | x :: y :: r, m => by
    by_cases e : y = x ∧ m + 1 < 256
    · obtain ⟨k, h1, h2⟩ := rpk_len (y :: r) (m + 1)
      exact ⟨k, by rw [rpk, if_pos e, h1], by rw [List.length_cons]; omega⟩
    · obtain ⟨k, h1, h2⟩ := rpk_len (y :: r) 0
      exact ⟨k + 1, by rw [rpk, if_neg e, List.length_append, h1]; show 3 + 3 * k = _; omega, by rw [List.length_cons]; omega⟩
/-- more told of the first one never makes it longer by more than one, nor shorter. -/
theorem rpk_mono : ∀ (l : List P2) (m m' : Nat), m ≤ m' → m' < 256 → (rpk m l).length ≤ (rpk m' l).length ∧ (rpk m' l).length ≤ (rpk m l).length + 3
  | [], m, m', _, _ => ⟨Nat.le_refl _, Nat.le_add_right _ _⟩
  | [x], m, m', _, _ => ⟨Nat.le_refl _, Nat.le_add_right _ _⟩
  | x :: y :: r, m, m', h, h' => by
    by_cases e : y = x
    · by_cases e1 : m' + 1 < 256
      · rw [rpk, if_pos ⟨e, by omega⟩, rpk, if_pos ⟨e, e1⟩]
        exact rpk_mono (y :: r) (m + 1) (m' + 1) (by omega) e1
      · rw [show rpk m' (x :: y :: r) = tri x m' ++ rpk 0 (y :: r) from by rw [rpk, if_neg (fun h => e1 h.2)]]
        by_cases e2 : m + 1 < 256
        · rw [rpk, if_pos ⟨e, e2⟩, List.length_append]
          have := rpk_mono (y :: r) 0 (m + 1) (by omega) e2
          show _ ≤ 3 + _ ∧ 3 + _ ≤ _
          omega
        · rw [rpk, if_neg (fun h => e2 h.2), List.length_append, List.length_append]
          show 3 + _ ≤ 3 + _ ∧ 3 + _ ≤ 3 + _ + 3
          omega
    · rw [rpk, if_neg (fun h => e h.1), rpk, if_neg (fun h => e h.1), List.length_append, List.length_append]
      show 3 + _ ≤ 3 + _ ∧ 3 + _ ≤ 3 + _ + 3
      omega
/-- a run ahead is at most one triple more. -/
theorem rpk_run (x : P2) : ∀ (c m : Nat) (l : List P2), m + c ≤ 256 → 1 ≤ c → (rpk m (List.replicate c x ++ l)).length ≤ 3 + (rpk 0 l).length
  | 0, m, l, _, h => by omega
  | 1, m, l, h, _ => by
    show (rpk m (x :: l)).length ≤ _
    cases l with
    | nil => exact Nat.le_refl 3
    | cons y r =>
      by_cases e : y = x ∧ m + 1 < 256
      · rw [rpk, if_pos e]
        have := rpk_mono (y :: r) 0 (m + 1) (by omega) e.2
        omega
      · rw [rpk, if_neg e, List.length_append]
        exact Nat.le_refl _
  | c + 2, m, l, h, _ => by
    have e1 : List.replicate (c + 2) x ++ l = x :: x :: (List.replicate c x ++ l) := rfl
    have e2 : List.replicate (c + 1) x ++ l = x :: (List.replicate c x ++ l) := rfl
    rw [e1, rpk_same (by omega), ← e2]
    exact rpk_run x (c + 1) (m + 1) l (by omega) (by omega)
theorem pack_up : ∀ (s : List UInt8), (rpk 0 (up s)).length ≤ s.length
  | a :: b :: c :: r => by
    have hc : c.toNat < 256 := c.toNat_lt
    have h1 := rpk_run ((a.toNat : Int), (b.toNat : Int)) (c.toNat + 1) 0 (up r) (by omega) (by omega)
    have h2 := pack_up r
    show (rpk 0 (List.replicate (c.toNat + 1) ((a.toNat : Int), (b.toNat : Int)) ++ up r)).length ≤ r.length + 1 + 1 + 1
    omega
  | [] => Nat.zero_le _
  | [a] => Nat.zero_le _
  | [a, b] => Nat.zero_le _
theorem up_fit : ∀ (s : List UInt8), ∀ x ∈ up s, fit2 x
  | a :: b :: c :: r, x, hx => by
    have hx' : x ∈ List.replicate (c.toNat + 1) ((a.toNat : Int), (b.toNat : Int)) ++ up r := hx
    rcases List.mem_append.1 hx' with h | h
    · obtain rfl := List.eq_of_mem_replicate h
      have h1 : a.toNat < 256 := a.toNat_lt
      have h2 : b.toNat < 256 := b.toNat_lt
      exact ⟨⟨by show (0 : Int) ≤ (a.toNat : Int); omega, by show (a.toNat : Int) ≤ 255; omega⟩, ⟨by show (0 : Int) ≤ (b.toNat : Int); omega, by show (b.toNat : Int) ≤ 255; omega⟩⟩
    · exact up_fit r x h
  | [], x, hx => by simp [up] at hx
  | [a], x, hx => by simp [up] at hx
  | [a, b], x, hx => by simp [up] at hx
theorem up_len : ∀ (s : List UInt8), (up s).length * 3 ≤ 256 * s.length
  | a :: b :: c :: r => by
    have hc : c.toNat < 256 := c.toNat_lt
    have h2 := up_len r
    show (List.replicate (c.toNat + 1) ((a.toNat : Int), (b.toNat : Int)) ++ up r).length * 3 ≤ 256 * (r.length + 1 + 1 + 1)
    rw [List.length_append, List.length_replicate]
    omega
  | [] => Nat.zero_le _
  | [a] => Nat.zero_le _
  | [a, b] => Nat.zero_le _
/-- reading on at a triple. -/
theorem up_at {s : List UInt8} {i : Nat} {a b c : UInt8} (ha : s[i]? = some a) (hb : s[i + 1]? = some b) (hc : s[i + 2]? = some c) : up (s.drop i) = List.replicate (c.toNat + 1) ((a.toNat : Int), (b.toNat : Int)) ++ up (s.drop (i + 3)) := by
  have d : ∀ {j : Nat} {q : UInt8}, s[j]? = some q → s.drop j = q :: s.drop (j + 1) := fun {j q} h => by
    have hl := (List.getElem?_eq_some_iff.1 h).1
    rw [List.drop_eq_getElem_cons hl]
    congr 1
    rw [List.getElem?_eq_getElem hl] at h
    exact Option.some.inj h
  rw [d ha, d hb, d hc]
  rfl
end Go.Proofs.Ytokkgfefiblmiaa.rp
