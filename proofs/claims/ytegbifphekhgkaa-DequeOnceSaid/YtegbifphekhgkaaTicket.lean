/- The contracts of layer 12 (ticket), at words that there are. -/
import Derived.Test.YtegbifphekhgkaaKeep
import Derived.Deep.RegionHeld3
namespace Go.Proofs.Ytegbifphekhgkaa
open Go.ChangeShapes Go.WideShapes Go.ChangeAt Go.RowKit
set_option linter.unusedVariables false
set_option linter.unusedSimpArgs false
theorem tserving_of (a n : Int) (k : Nat) (w : World) (hk : Hid (a + 1 = k)) (hs : k ≤ 1048576) : Calls Try.prog 112 #[.agg #[.int .i64 a, .int .i64 n]] w fun e w' => e = .returned (.int .i64 k) ∧ Below w.heap.size w w' := by
  have e := hk.out
  have hw : wrap64 (a + 1) = k := by unfold wrap64; omega
  go_enter Try.func112, Try.ntmps112
  go_wp2_with fail
  go_ret
  exact ⟨by simp, by go_grown⟩
theorem task_j (S g : Nat) (xs : List Int) (at_ : Nat) (x : Int) (w0 w : World) (h : J w0 w S g xs) (hx : Hid (xs.getD at_ 0 = x)) (hat : at_ < xs.length) (hm : xs.length ≤ 1048576) :
    Calls Try.prog 99 #[.pointer (some ⟨S, 0, none⟩), .int .i64 at_] w fun e w' => e = .returned (.agg #[.int .i64 at_, .int .i64 x]) ∧ J w0 w' S g (xs.set at_ (wrap64 (x + 1))) ∧ Keep g w w' := by
  have hx' := hx.out
  go_enter Try.func99, Try.ntmps99
  go_wp2_with fail
  obtain ⟨W, hW⟩ : ∃ W, W = w.alloc (Obj.cells #[Value.int IntKind.i64 0, Value.int IntKind.i64 0] 103) := ⟨_, rfl⟩
  have c0 : W.cell? ⟨w.heap.size, 0, none⟩ = some (.int .i64 0) := by rw [hW]; go_simp
  have c1 : W.cell? ⟨w.heap.size, 1, none⟩ = some (.int .i64 0) := by rw [hW]; go_simp
  have f0 : W.frozen? ⟨w.heap.size, 0, none⟩ = false := by rw [hW]; go_simp
  have f1 : W.frozen? ⟨w.heap.size, 1, none⟩ = false := by rw [hW]; go_simp
  have hbW : Below w.heap.size w W := by rw [hW]; go_grown
  have hsz : w.heap.size < W.heap.size := by rw [hW]; simp
  rw [← hW]
  clear hW
  have hJ0 := h.below' hbW
  have hgw : g ≠ w.heap.size := by have := h.1.facts.2.2.2.2.2; omega
  refine (add_in S g xs at_ 1 _ hJ0.1 hat hm).mono ?_
  rintro e w1 ⟨rfl, hw⟩
  rw [hx'] at hw ⊢
  have hJ := hJ0.set at_ _ hw
  have hK : Keep g W w1 := Keep.set hw
  have hK2 : Keep g w w1 := (Keep.of_below hbW).trans hK
  have d0 := hK.cell c0 (fun e => hgw e.symm)
  have d1 := hK.cell c1 (fun e => hgw e.symm)
  have e0 := hK.frozen f0 hsz (fun e => hgw e.symm)
  have e1 := hK.frozen f1 hsz (fun e => hgw e.symm)
  have hs1 : w.heap.size < w1.heap.size := Nat.lt_of_lt_of_le hsz hK.1
  have hbnd : Keep g w w1 ∧ J w0 w1 S g (xs.set at_ (wrap64 (x + 1))) := ⟨hK2, hJ⟩
  have hB := Lib.hid hbnd
  have hH := Lib.hid h
  clear hw h hx' hJ0 hJ hK hK2 c0 c1 f0 f1 hbW hbnd
  go_wp2_with fail
  refine bodyPost_ret (v := .agg #[.int .i64 at_, .int .i64 x]) (by simp [results, Try.results99, go_sem, d0, d1]) rfl ⟨rfl, ?_, ?_⟩
  · exact J.set_new hH.out (J.set_new hH.out hB.out.2 (Nat.le_refl _)) (Nat.le_refl _)
  · exact Keep.set_new (Keep.set_new hB.out.1 (Nat.le_refl _)) (Nat.le_refl _)
theorem tmine_j (S g k : Nat) (xs : List Int) (a n x : Int) (q : Bool) (w0 w : World) (h : J w0 w S g xs) (hk : Hid (a + 1 = k)) (hx : Hid (xs.getD k 0 = x)) (hq : Hid ((x == n) = q)) (hat : k < xs.length) (hm : xs.length ≤ 1048576) :
    Calls Try.prog 100 #[.agg #[.int .i64 a, .int .i64 n], .pointer (some ⟨S, 0, none⟩)] w fun e w' => e = .returned (.bool q) ∧ J w0 w' S g xs ∧ Keep g w w' := by
  have hq' := hq.out
  go_enter Try.func100, Try.ntmps100
  go_wp2_with fail
  refine (tserving_of a n k _ hk (by omega)).mono ?_
  rintro e w1 ⟨rfl, hb⟩
  have cc0 : w1.cell? ⟨w.heap.size, 0, none⟩ = some (.int .i64 a) := (hb.cell (p := ⟨w.heap.size, 0, none⟩) (by simp)).trans (by go_simp)
  have cc1 : w1.cell? ⟨w.heap.size, 1, none⟩ = some (.int .i64 n) := (hb.cell (p := ⟨w.heap.size, 1, none⟩) (by simp)).trans (by go_simp)
  have hb2 : Below w.heap.size w w1 := Below.trans (by go_grown) (hb.mono (by simp))
  have hJ := h.below' hb2
  clear hb
  have HX := hx
  go_wp2_with (first | (go_at_call 91; refine (load_in S g xs k _ hJ.1 hat hm).mono ?_; rintro e w' ⟨rfl, rfl⟩; rw [HX.out]))
  go_ret
  exact ⟨rfl, hJ, Keep.of_below hb2⟩
theorem keep2 {g B : Nat} {w0 W W' : World} {v0 v1 : Value} (h : Keep g w0 W ∧ W.cell? ⟨B, 0, none⟩ = some v0 ∧ W.cell? ⟨B, 1, none⟩ = some v1) (hk : Keep g W W') (hB : B ≠ g) :
    Keep g w0 W' ∧ W'.cell? ⟨B, 0, none⟩ = some v0 ∧ W'.cell? ⟨B, 1, none⟩ = some v1 := ⟨h.1.trans hk, hk.cell h.2.1 hB, hk.cell h.2.2 hB⟩
theorem tleave_j (S g k : Nat) (xs : List Int) (a n m : Int) (w0 w : World) (h : J w0 w S g xs) (hk : Hid (a + 1 = k)) (hn : Hid (wrap64 (n + 1) = m)) (hat : k < xs.length) (hm : xs.length ≤ 1048576) :
    Calls Try.prog 126 #[.agg #[.int .i64 a, .int .i64 n], .pointer (some ⟨S, 0, none⟩)] w fun e w' => e = .returned (.bool true) ∧ J w0 w' S g (xs.set k m) ∧ Keep g w w' := by
  have hn' : IntKind.i64.wrap (n + 1) = m := by have := hn.out; rw [IntKind.wrap_i64]; unfold wrap64 at this; omega
  have hn2 := hn.out
  go_enter Try.func126, Try.ntmps126
  go_wp2_with fail
  obtain ⟨W, hW⟩ : ∃ W, W = w.alloc (Obj.cells #[Value.int IntKind.i64 a, Value.int IntKind.i64 n] 103) := ⟨_, rfl⟩
  have c0 : W.cell? ⟨w.heap.size, 0, none⟩ = some (.int .i64 a) := by rw [hW]; go_simp
  have c1 : W.cell? ⟨w.heap.size, 1, none⟩ = some (.int .i64 n) := by rw [hW]; go_simp
  have hbW : Below w.heap.size w W := by rw [hW]; go_grown
  rw [← hW]
  clear hW
  have hne : w.heap.size ≠ g := by have := h.1.facts.2.2.2.2.2; omega
  have hJW := h.below' hbW
  go_region_held3 (fun w' => Keep g w w' ∧ w'.cell? ⟨w.heap.size, 0, none⟩ = some (.int .i64 a) ∧ w'.cell? ⟨w.heap.size, 1, none⟩ = some (.int .i64 n))
    (first | assumption | exact keep2 (by assumption) (Keep.set (by assumption)) hne | exact keep2 (by assumption) (Keep.of_below (by assumption)) hne | (refine ⟨Keep.of_below (btr hbW ?_), c0, c1⟩; go_grown; done))
    (first | (go_at_call 112; refine (tserving_of a n k _ hk (by omega)).mono ?_; rintro e w1 ⟨rfl, hb⟩)
           | (go_at_call 37; refine (store_in S g xs k _ _ (hJW.below' (btr (by go_grown) hb)).1 hat hm).mono ?_; rintro e w2 ⟨rfl, hw⟩; have hJ2 := (hJW.below' (btr (by go_grown) hb)).set _ _ hw))
  all_goals
    go_wp2_with fail
    go_ret
    exact ⟨rfl, by first | exact hJ2 | (rw [hn'] at hJ2; exact hJ2), And.left (by assumption)⟩
end Go.Proofs.Ytegbifphekhgkaa
