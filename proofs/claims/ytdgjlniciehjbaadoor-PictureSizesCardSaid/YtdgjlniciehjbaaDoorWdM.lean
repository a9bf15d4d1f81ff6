/- Runes of any bytes: what a walk over a line needs to know (layer 5). -/
import Derived.Test.YtdgjlniciehjbaaDoorWdK
import Derived.Lib.DecodeN
import Derived.Lib.OthersKept
import Derived.Laws.RangeAny
namespace Go.Proofs.YtdgjlniciehjbaaDoor.wd
open Go.ChangeShapes Go.WideShapes Go.ChangeAt Go.RowKit
open Go.Proofs.YtdgjlniciehjbaaDoor.st
set_option linter.unusedVariables false
set_option linter.unusedSimpArgs false
theorem decN (n b0 b1 b2 b3 : Nat) (hn : 1 ≤ n) (h : 128 ≤ b0) (h0 : b0 < 256) : 128 ≤ (Lib.decodeN n b0 b1 b2 b3).1 ∧ 1 ≤ (Lib.decodeN n b0 b1 b2 b3).2 ∧ (Lib.decodeN n b0 b1 b2 b3).2 ≤ n ∧ (Lib.decodeN n b0 b1 b2 b3).2 ≤ 4 ∧ (1 < (Lib.decodeN n b0 b1 b2 b3).2 → 128 ≤ b1) ∧ (2 < (Lib.decodeN n b0 b1 b2 b3).2 → 128 ≤ b2) ∧ (3 < (Lib.decodeN n b0 b1 b2 b3).2 → 128 ≤ b3) := by
  unfold Lib.decodeN
  have hb : ¬ b0 < 128 := by omega
  simp only [hb, if_false]
  repeat' split
  all_goals simp_all [Utf8.runeError]
  all_goals omega
theorem get_l (l : List UInt8) (i : Nat) (h : i < l.length) : ((⟨l.toArray⟩ : ByteArray).get! i) = l.getD i 0 := by
  rw [← str_at l i (by rw [str_size]; exact h)]
  exact get_at _ i _
/-- a rune that begins with a high byte is made of high bytes. -/
theorem dec_hi (l : List UInt8) (i : Nat) (hi : i < l.length) (h : 128 ≤ (l.getD i 0).toNat) : ∃ r n, Utf8.decode ⟨l.toArray⟩ i = (r, n + 1) ∧ 128 ≤ r ∧ r ≤ 2147483647 ∧ i + (n + 1) ≤ l.length ∧ ∀ j, j < n + 1 → 128 ≤ (l.getD (i + j) 0).toNat := by
  have hle := decode_le ⟨l.toArray⟩ i
  have hd := Lib.decode_at ⟨l.toArray⟩ i
  have h0 := get_l l i hi
  rw [h0, str_size] at hd
  obtain ⟨c1, c2, c3, c4, c5, c6, c7⟩ := decN (l.length - i) (l.getD i 0).toNat ((⟨l.toArray⟩ : ByteArray).get! (i + 1)).toNat ((⟨l.toArray⟩ : ByteArray).get! (i + 2)).toNat ((⟨l.toArray⟩ : ByteArray).get! (i + 3)).toNat (by omega) h (UInt8.toNat_lt _)
  rw [← hd] at c1 c2 c3 c4 c5 c6 c7
  obtain ⟨⟨r, m⟩, hD⟩ : ∃ D, Utf8.decode ⟨l.toArray⟩ i = D := ⟨_, rfl⟩
  rw [hD] at hle c1 c2 c3 c4 c5 c6 c7
  dsimp only at hle c1 c2 c3 c4 c5 c6 c7
  obtain ⟨n, rfl⟩ : ∃ n, m = n + 1 := ⟨m - 1, by omega⟩
  refine ⟨r, n, hD, c1, hle, by omega, fun j hj => ?_⟩
  match j, hj with
  | 0, _ => exact h
  | 1, hj => rw [← get_l l (i + 1) (by omega)]; exact c5 (by omega)
  | 2, hj => rw [← get_l l (i + 2) (by omega)]; exact c6 (by omega)
  | 3, hj => rw [← get_l l (i + 3) (by omega)]; exact c7 (by omega)
  | j + 4, hj => omega
/-- what `next` gives at place i: the rune, as a fact on whether it is a blank, and its bytes. -/
theorem rune_at (l : List UInt8) (i : Nat) (hi : i < l.length) : ∃ r n, Utf8.decode ⟨l.toArray⟩ i = (r, n + 1) ∧ r ≤ 2147483647 ∧ i + (n + 1) ≤ l.length ∧ ((r = 32 ∧ n = 0 ∧ l.drop i = 32 :: l.drop (i + 1)) ∨ (r ≠ 32 ∧ ∃ m, m.length = n + 1 ∧ (∀ c ∈ m, c ≠ 32) ∧ l.drop i = m ++ l.drop (i + (n + 1)) ∧ (l.drop i).take (n + 1) = m)) := by
  have hd : l.drop i = l.getD i 0 :: l.drop (i + 1) := drop_at l 0 i hi
  by_cases hlo : (l.getD i 0).toNat < 128
  · have hs : i < (⟨l.toArray⟩ : ByteArray).size := by rw [str_size]; exact hi
    have hat := str_at l i hs
    have hda := decode_ascii ⟨l.toArray⟩ i hs (by rw [hat]; exact hlo)
    rw [hat] at hda
    refine ⟨_, 0, hda, by omega, by omega, ?_⟩
    by_cases h32 : l.getD i 0 = 32
    · left
      exact ⟨by rw [h32]; rfl, rfl, by rw [hd, h32]⟩
    · right
      refine ⟨fun e => h32 (UInt8.toNat_inj.1 (by rw [e]; rfl)), [l.getD i 0], rfl, fun c hc => ?_, hd, by rw [hd]; rfl⟩
      rw [List.mem_singleton] at hc
      rw [hc]; exact h32
  · obtain ⟨r, n, hD, h1, h2, h3, h4⟩ := dec_hi l i hi (by omega)
    refine ⟨r, n, hD, h2, h3, .inr ⟨by omega, (l.drop i).take (n + 1), ?_, fun c hc => ?_, ?_, rfl⟩⟩
    · rw [List.length_take, List.length_drop]; omega
    · obtain ⟨j, hj⟩ := List.getElem?_of_mem hc
      have hjl := (List.getElem?_eq_some_iff.1 hj).1
      rw [List.length_take, List.length_drop] at hjl
      rw [List.getElem?_take, if_pos (by omega), List.getElem?_drop] at hj
      have := h4 j (by omega)
      rw [List.getD_eq_getElem?_getD, hj] at this
      rintro rfl
      have e32 : (32 : UInt8).toNat = 32 := rfl
      simp only [Option.getD_some] at this
      omega
    · rw [← List.drop_drop, List.take_append_drop]
/-- a row of one's own stays where an iterator is moved on. -/
theorem OR.iterAt {w : World} {B e k : Nat} {v : Value} {L : List (List UInt8)} (h : OR 1 enS w B e v L) (hk : k < B) (s : ByteArray) (pos : Nat) : OR 1 enS (w.iterAt k s pos) B e v L := by
  obtain ⟨hl, h1 | ⟨g, cap, cur, h1, h2, hh, h3⟩⟩ := h
  · exact ⟨hl, .inl h1⟩
  · exact ⟨hl, .inr ⟨g, cap, cur, h1, h2, (Lib.iterAt_other w k g s pos (by omega)).trans hh, h3⟩⟩
end Go.Proofs.YtdgjlniciehjbaaDoor.wd
