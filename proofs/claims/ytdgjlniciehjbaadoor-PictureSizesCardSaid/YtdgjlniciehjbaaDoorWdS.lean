/- Splitting and joining: the library's contracts in lists of bytes (layer 5). -/
import Derived.Test.YtdgjlniciehjbaaDoorWdA
import Derived.Test.YtdgjlniciehjbaaDoorRecs
import Derived.Lib.SplitLaws
namespace Go.Proofs.YtdgjlniciehjbaaDoor.wd
open Go.ChangeShapes Go.WideShapes Go.ChangeAt Go.RowKit
open Go.Proofs.YtdgjlniciehjbaaDoor.st
set_option linter.unusedVariables false
set_option linter.unusedSimpArgs false
/-- the pieces between the bytes c. -/
def spl (c : UInt8) : List UInt8 → List (List UInt8)
  | [] => [[]]
  | x :: r => if x = c then [] :: spl c r else match spl c r with
    | [] => [[x]]
    | h :: t => (x :: h) :: t
theorem spl_ne (c : UInt8) : ∀ l, spl c l ≠ [] := by
  intro l
  cases l with
  | nil => simp [spl]
  | cons x r =>
    rw [spl]
    split
    · simp
    · split <;> simp
theorem split_spl (c : UInt8) : ∀ l : List UInt8, Lib.splitK [c] 0 (Lib.count l [c]) l = spl c l := by
  intro l
  induction l with
  | nil => rfl
  | cons x r ih =>
    rw [spl]
    by_cases hx : x = c
    · subst hx
      rw [if_pos rfl, Lib.count_cons_eq, Nat.add_comm 1, Lib.splitK]
      have hi : Lib.index (x :: r) [x] = 0 := by
        rw [Lib.index, if_pos (by simp)]
      rw [hi]
      simp [ih]
    · rw [if_neg hx, Lib.count_cons_ne x c r hx]
      have hi : Lib.index (x :: r) [c] = if Lib.index r [c] == -1 then -1 else Lib.index r [c] + 1 := by
        rw [Lib.index, if_neg (by simp [Ne.symm hx])]
      by_cases hm : Lib.index r [c] = -1
      · have hc := Lib.count_miss hm
        rw [hc] at ih ⊢
        rw [Lib.splitK] at ih ⊢
        rw [← ih]
      · obtain ⟨i, hii⟩ : ∃ i : Nat, Lib.index r [c] = i := ⟨(Lib.index r [c]).toNat, by have := Lib.index_ge r [c]; omega⟩
        have hc := Lib.count_hit (s := r) (sub := [c]) (by simp) hii
        obtain ⟨k, hk⟩ : ∃ k, Lib.count r [c] = k + 1 := ⟨_, by rw [hc, Nat.add_comm 1]⟩
        rw [hk] at ih ⊢
        have e1 : ¬ (Lib.index r [c] == -1) = true := by simpa using hm
        rw [Lib.splitK, if_neg e1, hii] at ih
        rw [Lib.splitK, hi, if_neg e1, hii, if_neg (by simp; omega)]
        have e2 : ((i : Int) + 1).toNat = i + 1 := by omega
        have e3 : ((i : Int)).toNat = i := by omega
        rw [e3] at ih
        rw [e2, ← ih]
        simp [Nat.add_right_comm]
abbrev mkS (l : List UInt8) : ByteArray := ⟨l.toArray⟩
def enS (l : List UInt8) : List Value := [.string ⟨l.toArray⟩]
theorem recS : Rec 1 enS := ⟨by omega, fun _ => rfl, fun x u hu => by simp [enS] at hu; subst hu; rfl⟩
abbrev SV (w : World) (v : Value) (L : List (List UInt8)) : Prop := RV 1 enS w v L
theorem SV.at {w : World} {a : Option Addr} {n cap : Nat} {L : List (List UInt8)} (h : SV w (.slice a n cap) L) (i : Nat) (hi : i < n) : ∃ b o, a = some ⟨b, o, none⟩ ∧ b < w.heap.size ∧ w.cell? ⟨b, o + i, none⟩ = some (.string ⟨(L.getD i []).toArray⟩) := by
  have hl := h.len.1
  obtain ⟨b, o, e, hb, hc⟩ := RV.at h i (L.getD i []) (by rw [List.getD_eq_getElem?_getD, List.getElem?_eq_getElem (by omega)]; rfl)
  have := hc 0 _ rfl
  rw [Nat.mul_one, Nat.add_zero] at this
  exact ⟨b, o, e, hb, this⟩
theorem SV.of_block {w : World} {g : Nat} {L : List (List UInt8)} {e : TypeId} (h : w.heap[g]? = some (.cells ((L.map fun l => Value.string (mkS l)).toArray) e (0, 0))) (hm : L.length ≤ maxLen) : SV w (.slice (some ⟨g, 0, none⟩) L.length L.length) L := by
  refine ⟨_, L.length, rfl, Nat.le_refl _, hm, (fun h => by cases h), fun i x hx => ⟨g, 0, rfl, (Array.getElem?_eq_some_iff.1 h).1, fun j u hu => ?_⟩⟩
  match j, hu with
  | 0, hu =>
    simp [enS] at hu
    subst hu
    rw [Nat.mul_one, Nat.add_zero, Nat.zero_add, cel h i]
    simp [hx]
theorem mk_toList (b : ByteArray) : mkS b.data.toList = b := by simp [mkS]
theorem split_v (c : UInt8) (l : List UInt8) (w : World) (hl : l.length ≤ 1000000) (hN : NM w) : Calls Tryd.prog 35 #[.string ⟨l.toArray⟩, .string ⟨#[c]⟩] w fun e w' => ∃ v, e = .returned v ∧ SV w' v (spl c l) ∧ Below w.heap.size w w' := by
  obtain ⟨m, hm⟩ := hN.mx
  have hs1 : 1 ≤ (⟨#[c]⟩ : ByteArray).size := Nat.le_refl 1
  refine (Tryd.strings_Split ⟨l.toArray⟩ ⟨#[c]⟩ m w (by rw [str_size]; omega) hm hs1).mono ?_
  rintro e w' ⟨rfl, rfl⟩
  have hd := Lib.splitB_data ⟨#[c]⟩ 0 (Lib.countB ⟨l.toArray⟩ ⟨#[c]⟩) ⟨l.toArray⟩
  have hk := Lib.splitB_all ⟨#[c]⟩ hs1 0 _ ⟨l.toArray⟩ rfl
  have hcn : Lib.countB ⟨l.toArray⟩ ⟨#[c]⟩ = Lib.count l [c] := by
    unfold Lib.countB
    simp
  rw [hcn] at hd hk ⊢
  obtain ⟨X, hX⟩ : ∃ X, Lib.splitB ⟨#[c]⟩ 0 (Lib.count l [c]) ⟨l.toArray⟩ = X := ⟨_, rfl⟩
  rw [hX] at hd hk ⊢
  have hd2 : X.map (·.data.toList) = spl c l := by rw [hd]; simpa using split_spl c l
  have hXe : X.map Value.string = (spl c l).map fun l => Value.string (mkS l) := by
    rw [← hd2, List.map_map]
    refine List.map_congr_left fun b _ => ?_
    show _ = Value.string (mkS b.data.toList)
    rw [mk_toList]
  have hlen : Lib.count l [c] + 1 = (spl c l).length := by rw [← hd2, List.length_map, hk]
  have hcl := Lib.count_le l [c]
  refine ⟨_, rfl, ?_, ?_⟩
  · rw [hXe, hlen]
    exact SV.of_block (heap_new w _ _) (by unfold maxLen; omega)
  · exact (Below.refl _ _).alloc (Nat.le_refl _) _
theorem join_v (c : UInt8) (v : Value) (L : List (List UInt8)) (w : World) (h : SV w v L) (hn : L.length ≤ 1000000) (hb : (Lib.join L [c]).length ≤ 1000000000) : Calls Tryd.prog 34 #[v, .string ⟨#[c]⟩] w fun e w' => e = .returned (.string ⟨(Lib.join L [c]).toArray⟩) ∧ Below w.heap.size w w' := by
  obtain ⟨a, cap, rfl, hcap, hm⟩ := h.form
  cases hL : L with
  | nil =>
    rw [hL] at h
    refine (Tryd.strings_Join_none a cap ⟨#[c]⟩ w).mono ?_
    rintro e w' ⟨rfl, rfl⟩
    exact ⟨rfl, Below.refl _ _⟩
  | cons x r =>
    obtain ⟨b, o, rfl, hbl, _⟩ := h.at 0 (by rw [hL]; simp)
    rw [← hL]
    have hmap : (L.map mkS).map (·.data.toList) = L := by rw [List.map_map]; simp [Function.comp_def]
    have hlen : (L.map mkS).length = L.length := by simp
    have := Tryd.strings_Join b o cap (L.map mkS) ⟨#[c]⟩ w (by
      intro j y hy
      rw [List.getElem?_map] at hy
      cases hj : L[j]? with
      | none => rw [hj] at hy; simp at hy
      | some z =>
        rw [hj] at hy
        simp at hy
        subst hy
        obtain ⟨b', o', e, _, hc⟩ := h.at j (List.getElem?_eq_some_iff.1 hj).1
        simp only [Option.some.injEq, Addr.mk.injEq, and_true] at e
        obtain ⟨rfl, rfl⟩ := e
        rw [hc, List.getD_eq_getElem?_getD, hj]
        rfl) hbl (by rw [hlen]; omega) (by rw [hlen]; exact hcap) (by rw [hmap]; simp; omega)
    rw [hlen, hmap] at this
    simpa using this
end Go.Proofs.YtdgjlniciehjbaaDoor.wd
