/- Numbers in writing: the program's and the document's (layer 5). -/
import Derived.Test.YtdgjlniciehjbaaDoorWdP
import Derived.Test.YtdgjlniciehjbaaDoorStrs
import Derived.Test.YtdgjlniciehjbaaDoorShelf
import Derived.Lib.AppendIntMem
import Derived.Lib.ConvBytes
namespace Go.Proofs.YtdgjlniciehjbaaDoor.wd
open Go.ChangeShapes Go.WideShapes Go.ChangeAt Go.RowKit Go.Lib
open Go.Proofs.YtdgjlniciehjbaaDoor.st
set_option linter.unusedVariables false
set_option linter.unusedSimpArgs false
theorem below_bytes (w : World) (e : TypeId) (s : ByteArray) : Below w.heap.size w (Lib.bytesWorld w e s) :=
  ⟨rfl, rfl, rfl, by rw [Lib.bytesWorld_size]; omega, fun k hk => Lib.bytesWorld_at_old w e s k hk⟩
/-- what the listed variables hold. -/
structure NM (w : World) : Prop where
  tab : Lib.TabIs Tryd.prog w "internal/strconv.uint64pow10" .u64 Lib.pow10Tab
  syn : ∃ t p, w.cell? ⟨1, 0, none⟩ = some (.iface t p)
  rng : ∃ t p, w.cell? ⟨2, 0, none⟩ = some (.iface t p)
  mx : ∃ m, w.cell? ⟨0, 0, none⟩ = some (.int .i64 m)
  lt : 8 ≤ w.heap.size
theorem NM.below {w w' : World} (h : NM w) (hb : Below w.heap.size w w') : NM w' := by
  have hl := h.lt
  obtain ⟨t0, p0, h0⟩ := h.syn
  obtain ⟨t1, p1, h1⟩ := h.rng
  obtain ⟨m, h2⟩ := h.mx
  exact ⟨var?_below hb (g := 3) (by kernel_rfl) (by omega) h.tab, ⟨t0, p0, (hb.cell (p := ⟨1, 0, none⟩) (by show 1 < _; omega)).trans h0⟩, ⟨t1, p1, (hb.cell (p := ⟨2, 0, none⟩) (by show 2 < _; omega)).trans h1⟩, ⟨m, (hb.cell (p := ⟨0, 0, none⟩) (by show 0 < _; omega)).trans h2⟩, Nat.le_trans hl hb.size⟩
theorem of_v (n : Int) (w : World) (hn : I64 n) (hN : NM w) : Calls Tryd.prog 32 #[.int .i64 n] w fun e w' => e = .returned (.string ⟨(itoa n).toArray⟩) ∧ Below w.heap.size w w' := by
  have CI := Lib.hid (Tryd.strconv_Itoa n hn.1 hn.2 w hN.tab)
  clear hN
  go_enter Tryd.func32, Tryd.ntmps32
  go_wp2_with fail
  refine CI.out.mono ?_
  rintro e w' ⟨rfl, k, os, rfl⟩
  have hb := Lib.below_grow w.heap.size w (Nat.le_refl _) k os
  obtain ⟨W, hW⟩ : ∃ W, Sort.grow (w.drewN k) os = W := ⟨_, rfl⟩
  rw [hW] at hb
  have HW := Lib.hid hW
  clear hW
  go_wp2_with fail
  go_ret
  exact ⟨rfl, by rw [HW.out]; exact hb⟩
set_option maxRecDepth 20000 in
theorem num_v (l : List UInt8) (w : World) (hl : l.length ≤ 1000000) (hN : NM w) : Calls Tryd.prog 36 #[.string ⟨l.toArray⟩] w fun e w' => e = .returned (.tuple #[.int .i64 (numV l).1, .bool (numV l).2]) ∧ Below w.heap.size w w' := by
  have hfs := str_size l
  have hdl : (⟨l.toArray⟩ : ByteArray).data.toList = l := by simp
  cases h : atoiAll l with
  | ok v =>
    have hv := atoi_I h
    have CA := Lib.hid (Tryd.strconv_Atoi_ok ⟨l.toArray⟩ (by rw [hfs]; omega) v (by rw [hdl]; exact h) w)
    have CO := Lib.hid (fun w hN => of_v v w hv hN)
    have HN := Lib.hid hN
    have hnv : numV l = if itoa v = l then (v, true) else (0, false) := by unfold numV; rw [h]
    rw [hnv]
    clear hN hnv h hdl
    by_cases he : itoa v = l
    · rw [if_pos he]
      have hee : (itoa v == l) = true := by simpa using he
      clear he
      go_enter Tryd.func36, Tryd.ntmps36
      go_wp2_with fail
      refine CA.out.mono ?_
      rintro e w1 ⟨rfl, hw1⟩
      have hb1 : Below w.heap.size w w1 := by
        rcases hw1 with rfl | ⟨t, rfl⟩
        · exact Below.refl _ _
        · exact below_bytes _ _ _
      clear hw1 CA
      go_wp2_with fail
      refine (CO.out _ (HN.out.below hb1)).mono ?_
      rintro e w2 ⟨rfl, hb2⟩
      have HB2 := Lib.hid (tr3 hb1 hb2)
      clear hb1 hb2 CO
      go_wp2_with fail
      go_ret2
      exact ⟨rfl, HB2.out⟩
    · rw [if_neg he]
      have hee : (itoa v == l) = false := by simpa using he
      clear he
      go_enter Tryd.func36, Tryd.ntmps36
      go_wp2_with fail
      refine CA.out.mono ?_
      rintro e w1 ⟨rfl, hw1⟩
      have hb1 : Below w.heap.size w w1 := by
        rcases hw1 with rfl | ⟨t, rfl⟩
        · exact Below.refl _ _
        · exact below_bytes _ _ _
      clear hw1 CA
      go_wp2_with fail
      refine (CO.out _ (HN.out.below hb1)).mono ?_
      rintro e w2 ⟨rfl, hb2⟩
      have HB2 := Lib.hid (tr3 hb1 hb2)
      clear hb1 hb2 CO
      go_wp2_with fail
      go_ret2
      exact ⟨rfl, HB2.out⟩
  | «syntax» =>
    obtain ⟨t0, p0, h0⟩ := hN.syn
    have CA := Lib.hid (Tryd.strconv_Atoi_syntax ⟨l.toArray⟩ (by rw [hfs]; omega) (by rw [hdl]; exact h) _ w h0 (.inr ⟨_, _, rfl⟩))
    have hnv : numV l = (0, false) := by unfold numV; rw [h]
    rw [hnv]
    clear hN hnv h hdl h0
    go_enter Tryd.func36, Tryd.ntmps36
    go_wp2_with fail
    refine CA.out.mono ?_
    rintro e w1 ⟨N, rfl, _, _, hb1⟩
    have HB := Lib.hid hb1
    clear hb1 CA
    go_wp2_with fail
    go_ret2
    exact ⟨rfl, HB.out⟩
  | range =>
    obtain ⟨t0, p0, h0⟩ := hN.rng
    have CA := Lib.hid (Tryd.strconv_Atoi_range ⟨l.toArray⟩ (by rw [hfs]; omega) (by rw [hdl]; exact h) _ w h0 (.inr ⟨_, _, rfl⟩))
    have hnv : numV l = (0, false) := by unfold numV; rw [h]
    rw [hnv]
    clear hN hnv h hdl h0
    go_enter Tryd.func36, Tryd.ntmps36
    go_wp2_with fail
    refine CA.out.mono ?_
    rintro e w1 ⟨N, rfl, _, _, hb1⟩
    have HB := Lib.hid hb1
    clear hb1 CA
    go_wp2_with fail
    go_ret2
    exact ⟨rfl, HB.out⟩
end Go.Proofs.YtdgjlniciehjbaaDoor.wd
