/- Lines and a line of words, as the document has them; the program's Lines (layer 5). -/
import Derived.Test.YtgkfnplgldigbaaGreatDoorWdJ
namespace Go.Proofs.YtgkfnplgldigbaaGreatDoor.wd
open Go.ChangeShapes Go.WideShapes Go.ChangeAt Go.RowKit
open Go.Proofs.YtgkfnplgldigbaaGreatDoor.st
set_option linter.unusedVariables false
set_option linter.unusedSimpArgs false
set_option maxRecDepth 20000 in
set_option maxHeartbeats 1600000 in
set_option maxRecDepth 20000 in
set_option maxHeartbeats 1600000 in
/-- a row less its last. -/
theorem SV.take {w : World} {a : Option Addr} {n cap : Nat} {L : List (List UInt8)} (h : SV w (.slice a n cap) L) (m : Nat) (hm : m ≤ n) : SV w (.slice a m cap) (L.take m) := by
  obtain ⟨a', cap', hv, h1, h2, h3, h4⟩ := h
  rw [Value.slice.injEq] at hv
  obtain ⟨rfl, rfl, rfl⟩ := hv
  have hl : (L.take m).length = m := by rw [List.length_take]; omega
  refine ⟨a, cap, by rw [hl], by omega, h2, h3, fun i x hx => h4 i x ?_⟩
  rw [List.getElem?_take] at hx
  split at hx
  · exact hx
  · cases hx
theorem linV_eq (l : List UInt8) : linV l = if (spl 10 l).getD ((spl 10 l).length - 1) [] = [] then (spl 10 l).take ((spl 10 l).length - 1) else spl 10 l := by
  unfold linV linX
  rw [spX_nil]
  have hne := spl_ne 10 l
  obtain ⟨P, hP⟩ : ∃ P, spl 10 l = P := ⟨_, rfl⟩
  rw [hP] at hne ⊢
  have hlen : P.length ≠ 0 := fun e => hne (List.eq_nil_of_length_eq_zero e)
  rw [List.getLast?_eq_getElem?, List.dropLast_eq_take, List.getD_eq_getElem?_getD, List.getElem?_eq_getElem (by omega)]
  simp
set_option maxRecDepth 20000 in
set_option maxHeartbeats 1600000 in
theorem wlines_v (l : List UInt8) (w : World) (hl : l.length ≤ 100000) (hN : NM w) : Calls Tryz.prog 42 #[.string ⟨l.toArray⟩] w fun e w' => ∃ v, e = .returned v ∧ SV w' v (linV l) ∧ Below w.heap.size w w' := by
  rw [linV_eq]
  have hsl := spl_len 10 l
  have hne := spl_ne 10 l
  have CS := Lib.hid (split_v 10 l w (by omega) hN)
  obtain ⟨P, hP⟩ : ∃ P, spl 10 l = P := ⟨_, rfl⟩
  rw [hP] at hsl hne CS ⊢
  obtain ⟨n, hn⟩ : ∃ n, P.length = n := ⟨_, rfl⟩
  have hn0 : n ≠ 0 := fun e => hne (List.eq_nil_of_length_eq_zero (by omega))
  rw [hn] at hsl ⊢
  obtain ⟨k, rfl⟩ : ∃ k, n = k + 1 := ⟨n - 1, by omega⟩
  rw [Nat.add_sub_cancel]
  clear hP hne hn0 hN
  have hk1 : (k : Int) < (k : Int) + 1 := by omega
  have hw1 : IntKind.i64.wrap ((k : Int) + 1 - 1) = (k : Int) := by rw [IntKind.wrap_i64]; omega
  obtain ⟨E, hE⟩ : ∃ E, P.getD k [] = E := ⟨_, rfl⟩
  rw [hE]
  cases hem : E.isEmpty with
  | true =>
    rw [if_pos (List.isEmpty_iff.1 hem)]
    go_enter Tryz.func42, Tryz.ntmps42
    go_wp2_with fail
    refine CS.out.mono ?_
    rintro e w1 ⟨v1, rfl, hv1, hb1⟩
    obtain ⟨a1, c1, rfl, hc1, hm1⟩ := RV.form hv1
    rw [hn] at hv1 hc1
    rw [hn]
    have HV1 := Lib.hid hv1
    have HB1 := Lib.hid hb1
    obtain ⟨b, off, rfl, hbl, hxc⟩ := SV.at hv1 k (by omega)
    rw [hE] at hxc
    unfold maxLen at hm1
    have HV2 := Lib.hid (SV.take HV1.out k (by omega))
    clear CS hv1 hb1 hE
    go_wp2_with fail
    go_ret
    exact ⟨_, rfl, HV2.out, HB1.out⟩
  | false =>
    rw [if_neg (by intro e; rw [e] at hem; cases hem)]
    go_enter Tryz.func42, Tryz.ntmps42
    go_wp2_with fail
    refine CS.out.mono ?_
    rintro e w1 ⟨v1, rfl, hv1, hb1⟩
    obtain ⟨a1, c1, rfl, hc1, hm1⟩ := RV.form hv1
    rw [hn] at hv1 hc1
    rw [hn]
    have HV1 := Lib.hid hv1
    have HB1 := Lib.hid hb1
    obtain ⟨b, off, rfl, hbl, hxc⟩ := SV.at hv1 k (by omega)
    rw [hE] at hxc
    unfold maxLen at hm1
    clear CS hv1 hb1 hE
    go_wp2_with fail
    go_ret
    exact ⟨_, rfl, HV1.out, HB1.out⟩
end Go.Proofs.YtgkfnplgldigbaaGreatDoor.wd
