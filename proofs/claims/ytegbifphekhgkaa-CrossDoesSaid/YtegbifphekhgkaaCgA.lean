/- The words of a loop, for any iteration (layers 11, 17, for layer 19). -/
import Derived.Test.YtegbifphekhgkaaCrB
import Derived.StillTailTactics
import Derived.Deep.RegionHeld3
import Derived.Deep.DrawnRows
namespace Go.Proofs.Ytegbifphekhgkaa.cg
open Go.ChangeShapes Go.WideShapes Go.ChangeAt Go.RowKit
set_option linter.unusedVariables false
set_option linter.unusedSimpArgs false
/-- the slot of an iteration. -/
def HQ (c iter q : Int) : Prop := Hid (iter < 0 ∧ (0 : Int).tmod (c + 1) = q ∨ 0 ≤ iter ∧ iter.tmod (c + 1) = q)
theorem word_neg (a b c d id iter k F q : Int) (w : World) (hO : Hid (Okay a b c d)) (h1 : 1 ≤ id) (h2 : id ≤ b) (hF : Hid (a * (4 + d) + (id - 1) * (2 + (c + 1) * 4) = F)) (hn : iter < 0) (hq : Hid ((0 : Int).tmod (c + 1) = q)) (k0 : 0 ≤ k) (k1 : k ≤ 3) :
    Calls Try.prog 94 #[.agg #[.int .i64 a, .int .i64 b, .int .i64 c, .int .i64 d], .int .i64 id, .int .i64 iter, .int .i64 k] w fun e w' => e = .returned (.int .i64 (F + 2 + q * 4 + k)) ∧ Below w.heap.size w w' := by
  obtain ⟨f0, f1⟩ := frame_bd hO.out h1 h2 hF.out
  have hq' := hq.out
  have cc : 1 ≤ c ∧ c ≤ 64 := ⟨hO.out.2.2.2.2.1, hO.out.2.2.2.2.2.1⟩
  have q0 : 0 ≤ q := by rw [← hq']; exact Int.tmod_nonneg _ (Int.le_refl _)
  have q1 : q < c + 1 := by rw [← hq']; exact Int.tmod_lt_of_pos _ (by omega)
  have hd0 : (c + 1 == 0) = false := by simp; omega
  have hd1 : ¬ c + 1 = 0 := by omega
  have hs1 : IntKind.i64.wrap (F + 2) = F + 2 := by rw [IntKind.wrap_i64]; omega
  have hs2 : IntKind.i64.wrap (q * 4) = q * 4 := by rw [IntKind.wrap_i64]; omega
  have hs3 : IntKind.i64.wrap (F + 2 + q * 4) = F + 2 + q * 4 := by rw [IntKind.wrap_i64]; omega
  have hs4 : IntKind.i64.wrap (F + 2 + q * 4 + k) = F + 2 + q * 4 + k := by rw [IntKind.wrap_i64]; omega
  have hmx : (if iter < 0 then (0 : Int) else iter) = 0 := if_pos hn
  go_enter Try.func94, Try.ntmps94
  go_wp2_with fail
  refine (check_ok a b c d _ hO).mono ?_
  rintro e w1 ⟨rfl, hb1⟩
  obtain ⟨c0, c1, c2, c3, hb⟩ := recv4 hb1
  clear hb1
  go_wp2_with fail
  go_region_held3 (fun w' => Below w.heap.size w w' ∧ w'.cell? ⟨w.heap.size, 0, none⟩ = some (.int .i64 a) ∧ w'.cell? ⟨w.heap.size, 1, none⟩ = some (.int .i64 b) ∧ w'.cell? ⟨w.heap.size, 2, none⟩ = some (.int .i64 c) ∧ w'.cell? ⟨w.heap.size, 3, none⟩ = some (.int .i64 d)) (first | assumption | exact ⟨hb, c0, c1, c2, c3⟩ | (refine ⟨Below.tr hb ?_, c0, c1, c2, c3⟩; go_grown; done) | (refine keep4 ⟨hb, c0, c1, c2, c3⟩ ?_; go_grown; done) | (refine keep4 (by assumption) ?_; first | assumption | (go_grown; done)))
    (first | (go_at_call 108; refine (frame_of a b c d id F _ hO h1 h2 hF).mono ?_; rintro e w' ⟨rfl, hb'⟩) | (go_at_call 74; refine (slots_of a b c d _ hO).mono ?_; rintro e w'' ⟨rfl, rfl⟩))
  all_goals
    go_wp2_with fail
    go_ret
    exact ⟨by simp [*], And.left (by assumption)⟩
theorem wordg (a b c d id iter k F q : Int) (w : World) (hO : Hid (Okay a b c d)) (h1 : 1 ≤ id) (h2 : id ≤ b) (hF : Hid (a * (4 + d) + (id - 1) * (2 + (c + 1) * 4) = F)) (hq : HQ c iter q) (k0 : 0 ≤ k) (k1 : k ≤ 3) :
    Calls Try.prog 94 #[.agg #[.int .i64 a, .int .i64 b, .int .i64 c, .int .i64 d], .int .i64 id, .int .i64 iter, .int .i64 k] w fun e w' => e = .returned (.int .i64 (F + 2 + q * 4 + k)) ∧ Below w.heap.size w w' := by
  rcases hq.out with ⟨hn, h⟩ | ⟨hn, h⟩
  · exact word_neg a b c d id iter k F q w hO h1 h2 hF hn (Lib.hid h) k0 k1
  · exact word_of a b c d id iter k F q w hO h1 h2 hF hn (Lib.hid h) k0 k1
theorem counter_ofg (a b c d id iter F q : Int) (w : World) (hO : Hid (Okay a b c d)) (h1 : 1 ≤ id) (h2 : id ≤ b) (hF : Hid (a * (4 + d) + (id - 1) * (2 + (c + 1) * 4) = F)) (hq : HQ c iter q) :
    Calls Try.prog 84 #[.agg #[.int .i64 a, .int .i64 b, .int .i64 c, .int .i64 d], .int .i64 id, .int .i64 iter] w fun e w' => e = .returned (.int .i64 (F + 2 + q * 4 + 0)) ∧ Below w.heap.size w w' := by
  go_enter Try.func84, Try.ntmps84
  go_wp2_with fail
  refine (wordg a b c d id iter 0 F q _ hO h1 h2 hF hq (by decide) (by decide)).mono ?_
  rintro e w1 ⟨rfl, hb1⟩
  obtain ⟨c0, c1, c2, c3, hb⟩ := recv4 hb1
  clear hb1
  go_wp2_with fail
  go_ret
  exact ⟨by simp, hb⟩
theorem status_ofg (a b c d id iter F q : Int) (w : World) (hO : Hid (Okay a b c d)) (h1 : 1 ≤ id) (h2 : id ≤ b) (hF : Hid (a * (4 + d) + (id - 1) * (2 + (c + 1) * 4) = F)) (hq : HQ c iter q) :
    Calls Try.prog 92 #[.agg #[.int .i64 a, .int .i64 b, .int .i64 c, .int .i64 d], .int .i64 id, .int .i64 iter] w fun e w' => e = .returned (.int .i64 (F + 2 + q * 4 + 1)) ∧ Below w.heap.size w w' := by
  go_enter Try.func92, Try.ntmps92
  go_wp2_with fail
  refine (wordg a b c d id iter 1 F q _ hO h1 h2 hF hq (by decide) (by decide)).mono ?_
  rintro e w1 ⟨rfl, hb1⟩
  obtain ⟨c0, c1, c2, c3, hb⟩ := recv4 hb1
  clear hb1
  go_wp2_with fail
  go_ret
  exact ⟨by simp, hb⟩
theorem link_ofg (a b c d id iter F q : Int) (w : World) (hO : Hid (Okay a b c d)) (h1 : 1 ≤ id) (h2 : id ≤ b) (hF : Hid (a * (4 + d) + (id - 1) * (2 + (c + 1) * 4) = F)) (hq : HQ c iter q) :
    Calls Try.prog 71 #[.agg #[.int .i64 a, .int .i64 b, .int .i64 c, .int .i64 d], .int .i64 id, .int .i64 iter] w fun e w' => e = .returned (.int .i64 (F + 2 + q * 4 + 2)) ∧ Below w.heap.size w w' := by
  go_enter Try.func71, Try.ntmps71
  go_wp2_with fail
  refine (wordg a b c d id iter 2 F q _ hO h1 h2 hF hq (by decide) (by decide)).mono ?_
  rintro e w1 ⟨rfl, hb1⟩
  obtain ⟨c0, c1, c2, c3, hb⟩ := recv4 hb1
  clear hb1
  go_wp2_with fail
  go_ret
  exact ⟨by simp, hb⟩
theorem rcome_jg (S g k : Nat) (xs : List Int) (id sr iter F q x : Int) (w0 w : World) (h : J w0 w S g xs) (h1 : 1 ≤ id) (h2 : id ≤ 3) (hF : Hid ((1 : Int) * (4 + 3) + (id - 1) * (2 + (3 + 1) * 4) = F)) (hq : HQ 3 iter q) (hk : Hid (F + 2 + q * 4 + 0 = (k : Int))) (hx : Hid (xs.getD k 0 = x)) (hat : k < xs.length) (hm : xs.length ≤ 1048576) :
    Calls Try.prog 70 #[.agg #[.int .i64 1, .int .i64 3, .int .i64 3, .int .i64 3, .int .i64 id, .int .i64 sr], .pointer (some ⟨S, 0, none⟩), .int .i64 iter] w fun e w' => e = .returned (.int .i64 x) ∧ J w0 w' S g xs ∧ Keep g w w' := by
  have hk' := hk.out
  have H := Lib.hid h
  clear h
  go_enter Try.func70, Try.ntmps70
  go_wp2_with fail
  refine (counter_ofg 1 3 3 3 id iter F q _ okay17 h1 h2 hF hq).mono ?_
  rw [hk']
  rintro e w1 ⟨rfl, hb⟩
  have hb2 : Below w.heap.size w w1 := btr (by go_grown) hb
  have hJ1 := H.out.below' hb2
  clear hb
  go_wp2_with fail
  refine (load_in S g xs k _ hJ1.1 hat hm).mono ?_
  rw [hx.out]
  rintro e w3 ⟨rfl, rfl⟩
  go_wp2_with fail
  go_ret
  exact ⟨rfl, hJ1, Keep.of_below hb2⟩
theorem rwaits_jg (S g k : Nat) (xs : List Int) (id sr iter F q x : Int) (w0 w : World) (h : J w0 w S g xs) (h1 : 1 ≤ id) (h2 : id ≤ 3) (hF : Hid ((1 : Int) * (4 + 3) + (id - 1) * (2 + (3 + 1) * 4) = F)) (hq : HQ 3 iter q) (hk : Hid (F + 2 + q * 4 + 1 = (k : Int))) (hx : Hid (xs.getD k 0 = x)) (hat : k < xs.length) (hm : xs.length ≤ 1048576) :
    Calls Try.prog 65 #[.agg #[.int .i64 1, .int .i64 3, .int .i64 3, .int .i64 3, .int .i64 id, .int .i64 sr], .pointer (some ⟨S, 0, none⟩), .int .i64 iter] w fun e w' => e = .returned (.int .i64 x) ∧ J w0 w' S g xs ∧ Keep g w w' := by
  have hk' := hk.out
  have H := Lib.hid h
  clear h
  go_enter Try.func65, Try.ntmps65
  go_wp2_with fail
  refine (status_ofg 1 3 3 3 id iter F q _ okay17 h1 h2 hF hq).mono ?_
  rw [hk']
  rintro e w1 ⟨rfl, hb⟩
  have hb2 : Below w.heap.size w w1 := btr (by go_grown) hb
  have hJ1 := H.out.below' hb2
  clear hb
  go_wp2_with fail
  refine (load_in S g xs k _ hJ1.1 hat hm).mono ?_
  rw [hx.out]
  rintro e w3 ⟨rfl, rfl⟩
  go_wp2_with fail
  go_ret
  exact ⟨rfl, hJ1, Keep.of_below hb2⟩
theorem rwait_jg (S g k : Nat) (xs : List Int) (id sr iter F q st : Int) (w0 w : World) (h : J w0 w S g xs) (h1 : 1 ≤ id) (h2 : id ≤ 3) (hF : Hid ((1 : Int) * (4 + 3) + (id - 1) * (2 + (3 + 1) * 4) = F)) (hq : HQ 3 iter q) (hk : Hid (F + 2 + q * 4 + 1 = (k : Int))) (hat : k < xs.length) (hm : xs.length ≤ 1048576) :
    Calls Try.prog 69 #[.agg #[.int .i64 1, .int .i64 3, .int .i64 3, .int .i64 3, .int .i64 id, .int .i64 sr], .pointer (some ⟨S, 0, none⟩), .int .i64 iter, .int .i64 st] w fun e w' => e = .returned (.tuple #[]) ∧ J w0 w' S g (xs.set k (tOf sr iter st)) ∧ Keep g w w' := by
  have hk' := hk.out
  go_enter Try.func69, Try.ntmps69
  go_wp2_with fail
  obtain ⟨W, hW⟩ : ∃ W, W = w.alloc (Obj.cells #[Value.int IntKind.i64 1, Value.int IntKind.i64 3, Value.int IntKind.i64 3, Value.int IntKind.i64 3, Value.int IntKind.i64 id, Value.int IntKind.i64 sr] 69) := ⟨_, rfl⟩
  have c0 : W.cell? ⟨w.heap.size, 0, none⟩ = some (.int .i64 1) := by rw [hW]; go_simp
  have c1 : W.cell? ⟨w.heap.size, 1, none⟩ = some (.int .i64 3) := by rw [hW]; go_simp
  have c2 : W.cell? ⟨w.heap.size, 2, none⟩ = some (.int .i64 3) := by rw [hW]; go_simp
  have c3 : W.cell? ⟨w.heap.size, 3, none⟩ = some (.int .i64 3) := by rw [hW]; go_simp
  have c4 : W.cell? ⟨w.heap.size, 4, none⟩ = some (.int .i64 id) := by rw [hW]; go_simp
  have c5 : W.cell? ⟨w.heap.size, 5, none⟩ = some (.int .i64 sr) := by rw [hW]; go_simp
  have hbW : Below w.heap.size w W := by rw [hW]; go_grown
  rw [← hW]
  clear hW
  have hne : w.heap.size ≠ g := by have := h.1.facts.2.2.2.2.2; omega
  have hJW := h.below' hbW
  go_region_held3 (fun w' => Keep g w w' ∧ w'.cell? ⟨w.heap.size, 0, none⟩ = some (.int .i64 1) ∧ w'.cell? ⟨w.heap.size, 1, none⟩ = some (.int .i64 3) ∧ w'.cell? ⟨w.heap.size, 2, none⟩ = some (.int .i64 3) ∧ w'.cell? ⟨w.heap.size, 3, none⟩ = some (.int .i64 3) ∧ w'.cell? ⟨w.heap.size, 4, none⟩ = some (.int .i64 id) ∧ w'.cell? ⟨w.heap.size, 5, none⟩ = some (.int .i64 sr))
    (first | assumption | exact keep6 (by assumption) (Keep.set (by assumption)) hne | exact keep6 (by assumption) (Keep.of_below (by assumption)) hne | exact keep6 (by assumption) (by assumption) hne | (refine ⟨Keep.of_below (btr hbW ?_), c0, c1, c2, c3, c4, c5⟩; go_grown; done))
    (first | (go_at_call 92; refine (status_ofg 1 3 3 3 id iter F q _ okay17 h1 h2 hF hq).mono ?_; rw [hk']; rintro e w1 ⟨rfl, hb⟩; have hJ1 := hJW.below' (btr (by go_grown) hb)) | (go_at_call 90; refine (rtoken_of id sr iter st _).mono ?_; rintro e w2 ⟨rfl, hb2⟩; have hJ2 := hJ1.below' hb2) | (go_at_call 37; refine (store_in S g xs k (tOf sr iter st) _ hJ2.1 hat hm).mono ?_; rintro e w3 ⟨rfl, hw⟩; have hJ3 := hJ2.set _ _ hw))
  all_goals
    go_wp2_with fail
    go_end0
    exact ⟨rfl, hJ3, And.left (by assumption)⟩
theorem rfree_nog (S g k : Nat) (xs : List Int) (id sr iter F q st x : Int) (w0 w : World) (h : J w0 w S g xs) (h1 : 1 ≤ id) (h2 : id ≤ 3) (hF : Hid ((1 : Int) * (4 + 3) + (id - 1) * (2 + (3 + 1) * 4) = F)) (hq : HQ 3 iter q) (hk : Hid (F + 2 + q * 4 + 1 = (k : Int))) (hx : Hid (xs.getD k 0 = x)) (hqb : Hid (x ≠ tOf sr iter st)) (hat : k < xs.length) (hm : xs.length ≤ 1048576) :
    Calls Try.prog 67 #[.agg #[.int .i64 1, .int .i64 3, .int .i64 3, .int .i64 3, .int .i64 id, .int .i64 sr], .pointer (some ⟨S, 0, none⟩), .int .i64 iter, .int .i64 st] w fun e w' => e = .returned (.bool false) ∧ J w0 w' S g xs ∧ Keep g w w' := by
  have hk' := hk.out
  go_enter Try.func67, Try.ntmps67
  go_wp2_with fail
  obtain ⟨W, hW⟩ : ∃ W, W = w.alloc (Obj.cells #[Value.int IntKind.i64 1, Value.int IntKind.i64 3, Value.int IntKind.i64 3, Value.int IntKind.i64 3, Value.int IntKind.i64 id, Value.int IntKind.i64 sr] 69) := ⟨_, rfl⟩
  have c0 : W.cell? ⟨w.heap.size, 0, none⟩ = some (.int .i64 1) := by rw [hW]; go_simp
  have c1 : W.cell? ⟨w.heap.size, 1, none⟩ = some (.int .i64 3) := by rw [hW]; go_simp
  have c2 : W.cell? ⟨w.heap.size, 2, none⟩ = some (.int .i64 3) := by rw [hW]; go_simp
  have c3 : W.cell? ⟨w.heap.size, 3, none⟩ = some (.int .i64 3) := by rw [hW]; go_simp
  have c4 : W.cell? ⟨w.heap.size, 4, none⟩ = some (.int .i64 id) := by rw [hW]; go_simp
  have c5 : W.cell? ⟨w.heap.size, 5, none⟩ = some (.int .i64 sr) := by rw [hW]; go_simp
  have hbW : Below w.heap.size w W := by rw [hW]; go_grown
  rw [← hW]
  clear hW
  have hne : w.heap.size ≠ g := by have := h.1.facts.2.2.2.2.2; omega
  have hJW := h.below' hbW
  go_region_held3 (fun w' => Keep g w w' ∧ w'.cell? ⟨w.heap.size, 0, none⟩ = some (.int .i64 1) ∧ w'.cell? ⟨w.heap.size, 1, none⟩ = some (.int .i64 3) ∧ w'.cell? ⟨w.heap.size, 2, none⟩ = some (.int .i64 3) ∧ w'.cell? ⟨w.heap.size, 3, none⟩ = some (.int .i64 3) ∧ w'.cell? ⟨w.heap.size, 4, none⟩ = some (.int .i64 id) ∧ w'.cell? ⟨w.heap.size, 5, none⟩ = some (.int .i64 sr))
    (first | assumption | exact keep6 (by assumption) (Keep.set (by assumption)) hne | exact keep6 (by assumption) (Keep.of_below (by assumption)) hne | exact keep6 (by assumption) (by assumption) hne | (refine ⟨Keep.of_below (btr hbW ?_), c0, c1, c2, c3, c4, c5⟩; go_grown; done))
    (first | (go_at_call 92; refine (status_ofg 1 3 3 3 id iter F q _ okay17 h1 h2 hF hq).mono ?_; rw [hk']; rintro e w1 ⟨rfl, hb⟩; have hJ1 := hJW.below' (btr (by go_grown) hb)) | (go_at_call 90; refine (rtoken_of id sr iter st _).mono ?_; rintro e w2 ⟨rfl, hb2⟩; have hJ2 := hJ1.below' hb2) | (go_at_call 93; refine (rdrop_no S g k xs x (tOf sr iter st) _ _ hJ2 hx hqb hat hm).mono ?_; rintro e w3 ⟨rfl, rfl⟩))
  all_goals
    go_wp2_with fail
    go_ret
    exact ⟨rfl, hJ2, And.left (by assumption)⟩
theorem rfree_yesg (S g k : Nat) (xs : List Int) (id sr iter F q st : Int) (w0 w : World) (h : J w0 w S g xs) (h1 : 1 ≤ id) (h2 : id ≤ 3) (hF : Hid ((1 : Int) * (4 + 3) + (id - 1) * (2 + (3 + 1) * 4) = F)) (hq : HQ 3 iter q) (hk : Hid (F + 2 + q * 4 + 1 = (k : Int))) (hx : Hid (xs.getD k 0 = tOf sr iter st)) (hat : k < xs.length) (hm : xs.length ≤ 1048576) :
    Calls Try.prog 67 #[.agg #[.int .i64 1, .int .i64 3, .int .i64 3, .int .i64 3, .int .i64 id, .int .i64 sr], .pointer (some ⟨S, 0, none⟩), .int .i64 iter, .int .i64 st] w fun e w' => e = .returned (.bool true) ∧ J w0 w' S g (xs.set k 0) ∧ Keep g w w' := by
  have hk' := hk.out
  go_enter Try.func67, Try.ntmps67
  go_wp2_with fail
  obtain ⟨W, hW⟩ : ∃ W, W = w.alloc (Obj.cells #[Value.int IntKind.i64 1, Value.int IntKind.i64 3, Value.int IntKind.i64 3, Value.int IntKind.i64 3, Value.int IntKind.i64 id, Value.int IntKind.i64 sr] 69) := ⟨_, rfl⟩
  have c0 : W.cell? ⟨w.heap.size, 0, none⟩ = some (.int .i64 1) := by rw [hW]; go_simp
  have c1 : W.cell? ⟨w.heap.size, 1, none⟩ = some (.int .i64 3) := by rw [hW]; go_simp
  have c2 : W.cell? ⟨w.heap.size, 2, none⟩ = some (.int .i64 3) := by rw [hW]; go_simp
  have c3 : W.cell? ⟨w.heap.size, 3, none⟩ = some (.int .i64 3) := by rw [hW]; go_simp
  have c4 : W.cell? ⟨w.heap.size, 4, none⟩ = some (.int .i64 id) := by rw [hW]; go_simp
  have c5 : W.cell? ⟨w.heap.size, 5, none⟩ = some (.int .i64 sr) := by rw [hW]; go_simp
  have hbW : Below w.heap.size w W := by rw [hW]; go_grown
  rw [← hW]
  clear hW
  have hne : w.heap.size ≠ g := by have := h.1.facts.2.2.2.2.2; omega
  have hJW := h.below' hbW
  go_region_held3 (fun w' => Keep g w w' ∧ w'.cell? ⟨w.heap.size, 0, none⟩ = some (.int .i64 1) ∧ w'.cell? ⟨w.heap.size, 1, none⟩ = some (.int .i64 3) ∧ w'.cell? ⟨w.heap.size, 2, none⟩ = some (.int .i64 3) ∧ w'.cell? ⟨w.heap.size, 3, none⟩ = some (.int .i64 3) ∧ w'.cell? ⟨w.heap.size, 4, none⟩ = some (.int .i64 id) ∧ w'.cell? ⟨w.heap.size, 5, none⟩ = some (.int .i64 sr))
    (first | assumption | exact keep6 (by assumption) (Keep.set (by assumption)) hne | exact keep6 (by assumption) (Keep.of_below (by assumption)) hne | exact keep6 (by assumption) (by assumption) hne | (refine ⟨Keep.of_below (btr hbW ?_), c0, c1, c2, c3, c4, c5⟩; go_grown; done))
    (first | (go_at_call 92; refine (status_ofg 1 3 3 3 id iter F q _ okay17 h1 h2 hF hq).mono ?_; rw [hk']; rintro e w1 ⟨rfl, hb⟩; have hJ1 := hJW.below' (btr (by go_grown) hb)) | (go_at_call 90; refine (rtoken_of id sr iter st _).mono ?_; rintro e w2 ⟨rfl, hb2⟩; have hJ2 := hJ1.below' hb2) | (go_at_call 93; refine (rdrop_yes S g k xs (tOf sr iter st) _ _ hJ2 hx hat hm).mono ?_; rintro e w3 ⟨rfl, hJ3, hK3⟩))
  all_goals
    go_wp2_with fail
    go_ret
    exact ⟨rfl, hJ3, And.left (by assumption)⟩
theorem rframe_jg (S g k : Nat) (xs : List Int) (id sr iter F q x : Int) (w0 w : World) (h : J w0 w S g xs) (h1 : 1 ≤ id) (h2 : id ≤ 3) (hF : Hid ((1 : Int) * (4 + 3) + (id - 1) * (2 + (3 + 1) * 4) = F)) (hq : HQ 3 iter q) (hk : Hid (F + 2 + q * 4 + 2 = (k : Int))) (hx : Hid (xs.getD k 0 = x)) (hat : k < xs.length) (hm : xs.length ≤ 1048576) :
    Calls Try.prog 68 #[.agg #[.int .i64 1, .int .i64 3, .int .i64 3, .int .i64 3, .int .i64 id, .int .i64 sr], .pointer (some ⟨S, 0, none⟩), .int .i64 iter] w fun e w' => e = .returned (.int .i64 x) ∧ J w0 w' S g xs ∧ Keep g w w' := by
  have hk' := hk.out
  have H := Lib.hid h
  clear h
  go_enter Try.func68, Try.ntmps68
  go_wp2_with fail
  refine (link_ofg 1 3 3 3 id iter F q _ okay17 h1 h2 hF hq).mono ?_
  rw [hk']
  rintro e w1 ⟨rfl, hb⟩
  have hb2 : Below w.heap.size w w1 := btr (by go_grown) hb
  have hJ1 := H.out.below' hb2
  clear hb
  go_wp2_with fail
  refine (load_in S g xs k _ hJ1.1 hat hm).mono ?_
  rw [hx.out]
  rintro e w3 ⟨rfl, rfl⟩
  go_wp2_with fail
  go_ret
  exact ⟨rfl, hJ1, Keep.of_below hb2⟩
end Go.Proofs.Ytegbifphekhgkaa.cg
