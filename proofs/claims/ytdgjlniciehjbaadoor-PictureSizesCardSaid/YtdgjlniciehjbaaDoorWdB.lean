/- Numbers in writing, as the document has them (layer 5). -/
import Derived.Test.YtdgjlniciehjbaaDoorWdA
import Derived.OwnWalk
import Derived.Handy
namespace Go.Proofs.YtdgjlniciehjbaaDoor.wd
open Go.ChangeShapes Go.WideShapes Go.ChangeAt Go.RowKit Go.Lib
open Go.Proofs.YtdgjlniciehjbaaDoor.st
set_option linter.unusedVariables false
set_option linter.unusedSimpArgs false
theorem conv_one (w : World) (c : UInt8) : (convert 40 9 (.slice (some ⟨w.heap.size, 0, none⟩) 1 1)).run Tryd.prog (w.alloc (.cells #[.int .u8 (c.toNat : Int)] 5)) = .ok (.string ⟨#[c]⟩) (w.alloc (.cells #[.int .u8 (c.toNat : Int)] 5)) :=
  run_convert_bytes_back _ 40 9 5 ⟨w.heap.size, 0, none⟩ 1 [c] Tryd.underlying40 Tryd.underlying5 Tryd.underlying9 (by
    intro j hj
    match j, hj with
    | 0, _ => have := cel (heap_new w #[.int .u8 (c.toNat : Int)] 5) 0; simp [Addr.add, this])
set_option maxRecDepth 20000 in
set_option maxHeartbeats 1600000 in
theorem rof_v (n : Int) (w : World) (hn : I64 n) : Calls Tryd.prog 25 #[.int .i64 n] w fun e w' => e = .returned (.string ⟨(itoa n).toArray⟩) ∧ Below w.heap.size w w' := by
  by_cases h0 : n = 0
  · subst h0
    have hi : itoa 0 = [48] := by unfold itoa; rw [if_neg (by omega)]; exact dec_one 0 (by omega)
    rw [hi]
    go_enter Tryd.func25, Tryd.ntmps25
    go_wp2_with fail
    go_ret
    exact ⟨rfl, Below.refl _ _⟩
  · obtain ⟨hn0, hn1⟩ := hn
    have hL := dec_len 18 n.natAbs (by omega)
    obtain ⟨D, hD⟩ : ∃ D, decDigits n.natAbs = D := ⟨_, rfl⟩
    rw [hD] at hL
    have hi : itoa n = if n < 0 then 45 :: D else D := by
      unfold itoa
      by_cases h : n < 0
      · rw [if_pos h, if_pos h, hD]
      · rw [if_neg h, if_neg h, ← hD]; congr 1; omega
    obtain ⟨T, hT⟩ : ∃ T, itoa n = T := ⟨_, rfl⟩
    rw [hT]
    have HT : Hid (T = if n < 0 then 45 :: D else D) := Lib.hid (by rw [← hT, hi])
    have h0b : (n == 0) = false := by simpa using h0
    have hI0 : Hid ((if n.natAbs = 0 then ([] : List UInt8) else decDigits n.natAbs ++ []) = D) := Lib.hid (by rw [if_neg (by omega), List.append_nil, hD])
    have HB0 := Lib.hid (Below.refl w.heap.size w)
    clear hi hT hD h0
    go_enter Tryd.func25, Tryd.ntmps25
    go_wp2_with fail
    go_loopw [3, 4] (fun sv mv wr => ∃ (m : Int) (l : List UInt8), mv = .int .i64 m ∧ sv = .string ⟨l.toArray⟩ ∧ -9223372036854775808 ≤ m ∧ m ≤ 9223372036854775807 ∧ Hid ((if m.natAbs = 0 then l else decDigits m.natAbs ++ l) = D) ∧ Hid (Below w.heap.size w wr)) (fun _ mv _ => (RowKit.intOf mv).natAbs)
    case atStart => exact ⟨n, [], rfl, rfl, hn0, hn1, hI0, HB0⟩
    case round =>
      clear hI0 HB0
      obtain ⟨m, l, rfl, rfl, hm0, hm1, HI, HB⟩ := hrel
      by_cases hm : m = 0
      · subst hm
        have hl : l = D := by have := HI.out; rwa [if_pos (show Int.natAbs 0 = 0 from rfl)] at this
        subst hl
        have hm : ((0 : Int) != 0) = false := rfl
        have hll : ¬ 9223372036854775807 < 1 + l.length := by omega
        have hj := str_join [45] l
        clear HI
        by_cases hneg : n < 0
        · have hTT := HT.out
          rw [if_pos hneg] at hTT
          subst hTT
          clear HT
          go_wp2_with fail
          go_ret
          exact ⟨by first | rfl | simp, HB.out⟩
        · have hTT := HT.out
          rw [if_neg hneg] at hTT
          subst hTT
          clear HT
          go_wp2_with fail
          go_ret
          exact ⟨rfl, HB.out⟩
      · have hmb : (m == 0) = false := by simpa using hm
        have hmn : (m != 0) = true := by simpa using hm
        have hi := HI.out
        have hnx := fun h => dec_step m.natAbs n.natAbs l h (by omega)
        have hdm : (Int.tmod m 10).natAbs = m.natAbs % 10 := Int.natAbs_tmod ..
        have hqm : (Int.tdiv m 10).natAbs = m.natAbs / 10 := Int.natAbs_tdiv ..
        obtain ⟨d, hd⟩ : ∃ d, Int.tmod m 10 = d := ⟨_, rfl⟩
        obtain ⟨q, hq⟩ : ∃ q, Int.tdiv m 10 = q := ⟨_, rfl⟩
        rw [hd] at hdm
        rw [hq] at hqm
        obtain ⟨dn, hdn⟩ : ∃ dn, m.natAbs % 10 = dn := ⟨_, rfl⟩
        have hd10 : dn < 10 := by omega
        rw [hdn] at hdm
        have hqb : -922337203685477581 ≤ q ∧ q ≤ 922337203685477581 := by omega
        obtain ⟨hq0, hq1⟩ := hqb
        have hwq : IntKind.i64.wrap q = q := by rw [IntKind.wrap_i64]; omega
        have hcc := conv_one wr (UInt8.ofNat (48 + dn))
        rw [dig_val dn hd10, show ((48 + dn : Nat) : Int) = 48 + (dn : Int) by omega] at hcc
        obtain ⟨c, hc⟩ : ∃ c, UInt8.ofNat (48 + dn) = c := ⟨_, rfl⟩
        rw [hc] at hcc
        have hj := str_join [c] l
        have hlD : l.length ≤ 19 := by
          rw [if_neg (by omega)] at hi
          have := congrArg List.length hi
          rw [List.length_append] at this
          omega
        have hll : ¬ 9223372036854775807 < 1 + l.length := by omega
        have HIN : Hid ((if q.natAbs = 0 then c :: l else decDigits q.natAbs ++ (c :: l)) = D) := Lib.hid (by
          rw [hqm, ← hc, ← hdn, ← hi]
          have h2 : (if m.natAbs = 0 then l else decDigits m.natAbs ++ l) = decDigits m.natAbs ++ l := if_neg (by omega)
          by_cases h1 : m.natAbs < 10
          · rw [if_pos (by omega), h2, dec_one _ h1, Nat.mod_eq_of_lt h1]; rfl
          · rw [if_neg (by omega), h2, dec_rec _ h1, List.append_assoc]; rfl)
        have HQM := Lib.hid hqm
        clear hnx hi HI hqm hdn hc
        by_cases hdneg : d < 0
        · have hdd : d = -(dn : Int) := by omega
          subst hdd
          have hnn : - -(dn : Int) = (dn : Int) := by omega
          clear hdm
          go_wp2_with fail
          go_roundw
          case rel => exact ⟨q, c :: l, rfl, rfl, by omega, by omega, HIN, Lib.hid (tr3 HB.out (by go_grown))⟩
          case measure => have := HQM.out; show q.natAbs < m.natAbs; omega
        · have hdd : d = (dn : Int) := by omega
          subst hdd
          clear hdm
          go_wp2_with fail
          go_roundw
          case rel => exact ⟨q, c :: l, rfl, rfl, by omega, by omega, HIN, Lib.hid (tr3 HB.out (by go_grown))⟩
          case measure => have := HQM.out; show q.natAbs < m.natAbs; omega
end Go.Proofs.YtdgjlniciehjbaaDoor.wd
