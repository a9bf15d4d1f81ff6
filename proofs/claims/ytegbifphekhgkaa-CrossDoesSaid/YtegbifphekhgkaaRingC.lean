/- The contracts of layer 17 (ring), of the plan of its laws. -/
import Derived.Test.YtegbifphekhgkaaSwap
import Derived.Test.YtegbifphekhgkaaLayout3
import Derived.Test.YtegbifphekhgkaaTok
namespace Go.Proofs.Ytegbifphekhgkaa
open Go.ChangeShapes Go.WideShapes Go.ChangeAt Go.RowKit
set_option linter.unusedVariables false
set_option linter.unusedSimpArgs false
theorem keep6 {g B : Nat} {w0 W W' : World} {id sr : Int} (h : Keep g w0 W ∧ W.cell? ⟨B, 0, none⟩ = some (.int .i64 1) ∧ W.cell? ⟨B, 1, none⟩ = some (.int .i64 3) ∧ W.cell? ⟨B, 2, none⟩ = some (.int .i64 3) ∧ W.cell? ⟨B, 3, none⟩ = some (.int .i64 3) ∧ W.cell? ⟨B, 4, none⟩ = some (.int .i64 id) ∧ W.cell? ⟨B, 5, none⟩ = some (.int .i64 sr)) (hk : Keep g W W') (hB : B ≠ g) : Keep g w0 W' ∧ W'.cell? ⟨B, 0, none⟩ = some (.int .i64 1) ∧ W'.cell? ⟨B, 1, none⟩ = some (.int .i64 3) ∧ W'.cell? ⟨B, 2, none⟩ = some (.int .i64 3) ∧ W'.cell? ⟨B, 3, none⟩ = some (.int .i64 3) ∧ W'.cell? ⟨B, 4, none⟩ = some (.int .i64 id) ∧ W'.cell? ⟨B, 5, none⟩ = some (.int .i64 sr) := by
  obtain ⟨h0, c0, c1, c2, c3, c4, c5⟩ := h
  exact ⟨h0.trans hk, hk.cell c0 hB, hk.cell c1 hB, hk.cell c2 hB, hk.cell c3 hB, hk.cell c4 hB, hk.cell c5 hB⟩
theorem okay17 : Hid (Okay 1 3 3 3) := Lib.hid (by unfold Okay; omega)
theorem rtoken_of (id sr iter st : Int) (w : World) :
    Calls Try.prog 90 #[.agg #[.int .i64 1, .int .i64 3, .int .i64 3, .int .i64 3, .int .i64 id, .int .i64 sr], .int .i64 iter, .int .i64 st] w fun e w' => e = .returned (.int .i64 (tOf sr iter st)) ∧ Below w.heap.size w w' := by
  go_enter Try.func90, Try.ntmps90
  go_wp2_with (first | (go_at_call 106; refine (of_any _ _ _ _).mono ?_; rintro e w' ⟨rfl, rfl⟩))
  go_ret
  exact ⟨rfl, by go_grown⟩
theorem rdrop_no (S g k : Nat) (xs : List Int) (x t : Int) (w0 w : World) (h : J w0 w S g xs) (hx : Hid (xs.getD k 0 = x)) (hne : Hid (x ≠ t)) (hat : k < xs.length) (hm : xs.length ≤ 1048576) :
    Calls Try.prog 93 #[.pointer (some ⟨S, 0, none⟩), .int .i64 k, .int .i64 t] w fun e w' => e = .returned (.bool false) ∧ w = w' := by
  have hq' : (x == t) = false := by have := hne.out; simp; exact this
  go_enter Try.func93, Try.ntmps93
  go_wp2_with (first | (go_at_call 107; refine (swap_no S g xs k x t 0 _ h.1 hat hm hx hq').mono ?_; rintro e w' ⟨rfl, rfl⟩))
  go_ret
  exact ⟨rfl, rfl⟩
theorem rdrop_yes (S g k : Nat) (xs : List Int) (t : Int) (w0 w : World) (h : J w0 w S g xs) (hx : Hid (xs.getD k 0 = t)) (hat : k < xs.length) (hm : xs.length ≤ 1048576) :
    Calls Try.prog 93 #[.pointer (some ⟨S, 0, none⟩), .int .i64 k, .int .i64 t] w fun e w' => e = .returned (.bool true) ∧ J w0 w' S g (xs.set k 0) ∧ Keep g w w' := by
  go_enter Try.func93, Try.ntmps93
  go_wp2_with (first | (go_at_call 107; refine (swap_yes S g xs k t 0 _ h.1 hat hm hx).mono ?_; rintro e w' ⟨rfl, hw⟩))
  go_ret
  exact ⟨rfl, h.set _ _ hw, Keep.set hw⟩
theorem rgo_j (S g k : Nat) (xs : List Int) (id sr iter F q n : Int) (w0 w : World) (h : J w0 w S g xs) (h1 : 1 ≤ id) (h2 : id ≤ 3) (hF : Hid ((1 : Int) * (4 + 3) + (id - 1) * (2 + (3 + 1) * 4) = F)) (hn : 0 ≤ iter) (hq : Hid (iter.tmod (3 + 1) = q)) (hk : Hid (F + 2 + q * 4 + 0 = (k : Int))) (hat : k < xs.length) (hm : xs.length ≤ 1048576) :
    Calls Try.prog 58 #[.agg #[.int .i64 1, .int .i64 3, .int .i64 3, .int .i64 3, .int .i64 id, .int .i64 sr], .pointer (some ⟨S, 0, none⟩), .int .i64 iter, .int .i64 n] w fun e w' => e = .returned (.tuple #[]) ∧ J w0 w' S g (xs.set k n) ∧ Keep g w w' := by
  have hk' := hk.out
  have H := Lib.hid h
  clear h
  go_enter Try.func58, Try.ntmps58
  go_wp2_with fail
  refine (counter_of 1 3 3 3 id iter F q _ okay17 h1 h2 hF hn hq).mono ?_
  rw [hk']
  rintro e w1 ⟨rfl, hb⟩
  have hb2 : Below w.heap.size w w1 := btr (by go_grown) hb
  have hJ1 := H.out.below' hb2
  clear hb
  go_wp2_with fail
  refine (store_in S g xs k n _ hJ1.1 hat hm).mono ?_
  rintro e w3 ⟨rfl, hw⟩
  have hJ3 := hJ1.set _ _ hw
  have hK : Keep g w w3 := (Keep.of_below hb2).trans (Keep.set hw)
  clear hw hJ1 hb2
  go_wp2_with fail
  go_end0
  exact ⟨rfl, hJ3, hK⟩
set_option maxHeartbeats 2000000 in
theorem rwait_j (S g k : Nat) (xs : List Int) (id sr iter F q st : Int) (w0 w : World) (h : J w0 w S g xs) (h1 : 1 ≤ id) (h2 : id ≤ 3) (hF : Hid ((1 : Int) * (4 + 3) + (id - 1) * (2 + (3 + 1) * 4) = F)) (hn : 0 ≤ iter) (hq : Hid (iter.tmod (3 + 1) = q)) (hk : Hid (F + 2 + q * 4 + 1 = (k : Int))) (hat : k < xs.length) (hm : xs.length ≤ 1048576) :
    Calls Try.prog 69 #[.agg #[.int .i64 1, .int .i64 3, .int .i64 3, .int .i64 3, .int .i64 id, .int .i64 sr], .pointer (some ⟨S, 0, none⟩), .int .i64 iter, .int .i64 st] w fun e w' => e = .returned (.tuple #[]) ∧ J w0 w' S g (xs.set k (tOf sr iter st)) ∧ Keep g w w' := by
  have hk' := hk.out
  go_enter Try.func69, Try.ntmps69
  go_wp2_with fail
  obtain ⟨W, hW⟩ : ∃ W, W = w.alloc (Obj.cells #[Value.int IntKind.i64 1, Value.int IntKind.i64 3, Value.int IntKind.i64 3, Value.int IntKind.i64 3, Value.int IntKind.i64 id, Value.int IntKind.i64 sr] 69) := ⟨_, rfl⟩
  have c0 : W.cell? ⟨w.heap.size, 0, none⟩ = some (.int .i64 1) := by rw [hW]; go_simp
  have c1 : W.cell? ⟨w.heap.size, 1, none⟩ = some (.int .i64 3) := by rw [hW]; go_simp
  have c2 : W.cell? ⟨w.heap.size, 2, none⟩ = some (.int .i64 3) := by rw [hW]; go_simp
  have c3 : W.cell? ⟨w.heap.size, 3, none⟩ = some (.int .i64 3) := by rw [hW]; go_simp
  have c4 : W.cell? ⟨w.heap.size, 4, none⟩ = some (.int .i64 id) := by rw [hW]; go_simp
  have c5 : W.cell? ⟨w.heap.size, 5, none⟩ = some (.int .i64 sr) := by rw [hW]; go_simp
  have hbW : Below w.heap.size w W := by rw [hW]; go_grown
  rw [← hW]
  clear hW
  have hne : w.heap.size ≠ g := by have := h.1.facts.2.2.2.2.2; omega
  have hJW := h.below' hbW
  go_region_held3 (fun w' => Keep g w w' ∧ w'.cell? ⟨w.heap.size, 0, none⟩ = some (.int .i64 1) ∧ w'.cell? ⟨w.heap.size, 1, none⟩ = some (.int .i64 3) ∧ w'.cell? ⟨w.heap.size, 2, none⟩ = some (.int .i64 3) ∧ w'.cell? ⟨w.heap.size, 3, none⟩ = some (.int .i64 3) ∧ w'.cell? ⟨w.heap.size, 4, none⟩ = some (.int .i64 id) ∧ w'.cell? ⟨w.heap.size, 5, none⟩ = some (.int .i64 sr))
    (first | assumption | exact keep6 (by assumption) (Keep.set (by assumption)) hne | exact keep6 (by assumption) (Keep.of_below (by assumption)) hne | exact keep6 (by assumption) (by assumption) hne | (refine ⟨Keep.of_below (btr hbW ?_), c0, c1, c2, c3, c4, c5⟩; go_grown; done))
    (first | (go_at_call 92; refine (status_of 1 3 3 3 id iter F q _ okay17 h1 h2 hF hn hq).mono ?_; rw [hk']; rintro e w1 ⟨rfl, hb⟩; have hJ1 := hJW.below' (btr (by go_grown) hb)) | (go_at_call 90; refine (rtoken_of id sr iter st _).mono ?_; rintro e w2 ⟨rfl, hb2⟩; have hJ2 := hJ1.below' hb2) | (go_at_call 37; refine (store_in S g xs k (tOf sr iter st) _ hJ2.1 hat hm).mono ?_; rintro e w3 ⟨rfl, hw⟩; have hJ3 := hJ2.set _ _ hw))
  all_goals
    go_wp2_with fail
    go_end0
    exact ⟨rfl, hJ3, And.left (by assumption)⟩
set_option maxHeartbeats 2000000 in
set_option maxHeartbeats 2000000 in
theorem rcome_j (S g k : Nat) (xs : List Int) (id sr iter F q x : Int) (w0 w : World) (h : J w0 w S g xs) (h1 : 1 ≤ id) (h2 : id ≤ 3) (hF : Hid ((1 : Int) * (4 + 3) + (id - 1) * (2 + (3 + 1) * 4) = F)) (hn : 0 ≤ iter) (hq : Hid (iter.tmod (3 + 1) = q)) (hk : Hid (F + 2 + q * 4 + 0 = (k : Int))) (hx : Hid (xs.getD k 0 = x)) (hat : k < xs.length) (hm : xs.length ≤ 1048576) :
    Calls Try.prog 70 #[.agg #[.int .i64 1, .int .i64 3, .int .i64 3, .int .i64 3, .int .i64 id, .int .i64 sr], .pointer (some ⟨S, 0, none⟩), .int .i64 iter] w fun e w' => e = .returned (.int .i64 x) ∧ J w0 w' S g xs ∧ Keep g w w' := by
  have hk' := hk.out
  have H := Lib.hid h
  clear h
  go_enter Try.func70, Try.ntmps70
  go_wp2_with fail
  refine (counter_of 1 3 3 3 id iter F q _ okay17 h1 h2 hF hn hq).mono ?_
  rw [hk']
  rintro e w1 ⟨rfl, hb⟩
  have hb2 : Below w.heap.size w w1 := btr (by go_grown) hb
  have hJ1 := H.out.below' hb2
  clear hb
  go_wp2_with fail
  refine (load_in S g xs k _ hJ1.1 hat hm).mono ?_
  rw [hx.out]
  rintro e w3 ⟨rfl, rfl⟩
  go_wp2_with fail
  go_ret
  exact ⟨rfl, hJ1, Keep.of_below hb2⟩
theorem rwaits_j (S g k : Nat) (xs : List Int) (id sr iter F q x : Int) (w0 w : World) (h : J w0 w S g xs) (h1 : 1 ≤ id) (h2 : id ≤ 3) (hF : Hid ((1 : Int) * (4 + 3) + (id - 1) * (2 + (3 + 1) * 4) = F)) (hn : 0 ≤ iter) (hq : Hid (iter.tmod (3 + 1) = q)) (hk : Hid (F + 2 + q * 4 + 1 = (k : Int))) (hx : Hid (xs.getD k 0 = x)) (hat : k < xs.length) (hm : xs.length ≤ 1048576) :
    Calls Try.prog 65 #[.agg #[.int .i64 1, .int .i64 3, .int .i64 3, .int .i64 3, .int .i64 id, .int .i64 sr], .pointer (some ⟨S, 0, none⟩), .int .i64 iter] w fun e w' => e = .returned (.int .i64 x) ∧ J w0 w' S g xs ∧ Keep g w w' := by
  have hk' := hk.out
  have H := Lib.hid h
  clear h
  go_enter Try.func65, Try.ntmps65
  go_wp2_with fail
  refine (status_of 1 3 3 3 id iter F q _ okay17 h1 h2 hF hn hq).mono ?_
  rw [hk']
  rintro e w1 ⟨rfl, hb⟩
  have hb2 : Below w.heap.size w w1 := btr (by go_grown) hb
  have hJ1 := H.out.below' hb2
  clear hb
  go_wp2_with fail
  refine (load_in S g xs k _ hJ1.1 hat hm).mono ?_
  rw [hx.out]
  rintro e w3 ⟨rfl, rfl⟩
  go_wp2_with fail
  go_ret
  exact ⟨rfl, hJ1, Keep.of_below hb2⟩
set_option maxHeartbeats 2000000 in
set_option maxHeartbeats 2000000 in
set_option maxHeartbeats 2000000 in
theorem rfree_no (S g k : Nat) (xs : List Int) (id sr iter F q st x : Int) (w0 w : World) (h : J w0 w S g xs) (h1 : 1 ≤ id) (h2 : id ≤ 3) (hF : Hid ((1 : Int) * (4 + 3) + (id - 1) * (2 + (3 + 1) * 4) = F)) (hn : 0 ≤ iter) (hq : Hid (iter.tmod (3 + 1) = q)) (hk : Hid (F + 2 + q * 4 + 1 = (k : Int))) (hx : Hid (xs.getD k 0 = x)) (hqb : Hid (x ≠ tOf sr iter st)) (hat : k < xs.length) (hm : xs.length ≤ 1048576) :
    Calls Try.prog 67 #[.agg #[.int .i64 1, .int .i64 3, .int .i64 3, .int .i64 3, .int .i64 id, .int .i64 sr], .pointer (some ⟨S, 0, none⟩), .int .i64 iter, .int .i64 st] w fun e w' => e = .returned (.bool false) ∧ J w0 w' S g xs ∧ Keep g w w' := by
  have hk' := hk.out
  go_enter Try.func67, Try.ntmps67
  go_wp2_with fail
  obtain ⟨W, hW⟩ : ∃ W, W = w.alloc (Obj.cells #[Value.int IntKind.i64 1, Value.int IntKind.i64 3, Value.int IntKind.i64 3, Value.int IntKind.i64 3, Value.int IntKind.i64 id, Value.int IntKind.i64 sr] 69) := ⟨_, rfl⟩
  have c0 : W.cell? ⟨w.heap.size, 0, none⟩ = some (.int .i64 1) := by rw [hW]; go_simp
  have c1 : W.cell? ⟨w.heap.size, 1, none⟩ = some (.int .i64 3) := by rw [hW]; go_simp
  have c2 : W.cell? ⟨w.heap.size, 2, none⟩ = some (.int .i64 3) := by rw [hW]; go_simp
  have c3 : W.cell? ⟨w.heap.size, 3, none⟩ = some (.int .i64 3) := by rw [hW]; go_simp
  have c4 : W.cell? ⟨w.heap.size, 4, none⟩ = some (.int .i64 id) := by rw [hW]; go_simp
  have c5 : W.cell? ⟨w.heap.size, 5, none⟩ = some (.int .i64 sr) := by rw [hW]; go_simp
  have hbW : Below w.heap.size w W := by rw [hW]; go_grown
  rw [← hW]
  clear hW
  have hne : w.heap.size ≠ g := by have := h.1.facts.2.2.2.2.2; omega
  have hJW := h.below' hbW
  go_region_held3 (fun w' => Keep g w w' ∧ w'.cell? ⟨w.heap.size, 0, none⟩ = some (.int .i64 1) ∧ w'.cell? ⟨w.heap.size, 1, none⟩ = some (.int .i64 3) ∧ w'.cell? ⟨w.heap.size, 2, none⟩ = some (.int .i64 3) ∧ w'.cell? ⟨w.heap.size, 3, none⟩ = some (.int .i64 3) ∧ w'.cell? ⟨w.heap.size, 4, none⟩ = some (.int .i64 id) ∧ w'.cell? ⟨w.heap.size, 5, none⟩ = some (.int .i64 sr))
    (first | assumption | exact keep6 (by assumption) (Keep.set (by assumption)) hne | exact keep6 (by assumption) (Keep.of_below (by assumption)) hne | exact keep6 (by assumption) (by assumption) hne | (refine ⟨Keep.of_below (btr hbW ?_), c0, c1, c2, c3, c4, c5⟩; go_grown; done))
    (first | (go_at_call 92; refine (status_of 1 3 3 3 id iter F q _ okay17 h1 h2 hF hn hq).mono ?_; rw [hk']; rintro e w1 ⟨rfl, hb⟩; have hJ1 := hJW.below' (btr (by go_grown) hb)) | (go_at_call 90; refine (rtoken_of id sr iter st _).mono ?_; rintro e w2 ⟨rfl, hb2⟩; have hJ2 := hJ1.below' hb2) | (go_at_call 93; refine (rdrop_no S g k xs x (tOf sr iter st) _ _ hJ2 hx hqb hat hm).mono ?_; rintro e w3 ⟨rfl, rfl⟩))
  all_goals
    go_wp2_with fail
    go_ret
    exact ⟨rfl, hJ2, And.left (by assumption)⟩
set_option maxHeartbeats 2000000 in
theorem rfree_yes (S g k : Nat) (xs : List Int) (id sr iter F q st : Int) (w0 w : World) (h : J w0 w S g xs) (h1 : 1 ≤ id) (h2 : id ≤ 3) (hF : Hid ((1 : Int) * (4 + 3) + (id - 1) * (2 + (3 + 1) * 4) = F)) (hn : 0 ≤ iter) (hq : Hid (iter.tmod (3 + 1) = q)) (hk : Hid (F + 2 + q * 4 + 1 = (k : Int))) (hx : Hid (xs.getD k 0 = tOf sr iter st)) (hat : k < xs.length) (hm : xs.length ≤ 1048576) :
    Calls Try.prog 67 #[.agg #[.int .i64 1, .int .i64 3, .int .i64 3, .int .i64 3, .int .i64 id, .int .i64 sr], .pointer (some ⟨S, 0, none⟩), .int .i64 iter, .int .i64 st] w fun e w' => e = .returned (.bool true) ∧ J w0 w' S g (xs.set k 0) ∧ Keep g w w' := by
  have hk' := hk.out
  go_enter Try.func67, Try.ntmps67
  go_wp2_with fail
  obtain ⟨W, hW⟩ : ∃ W, W = w.alloc (Obj.cells #[Value.int IntKind.i64 1, Value.int IntKind.i64 3, Value.int IntKind.i64 3, Value.int IntKind.i64 3, Value.int IntKind.i64 id, Value.int IntKind.i64 sr] 69) := ⟨_, rfl⟩
  have c0 : W.cell? ⟨w.heap.size, 0, none⟩ = some (.int .i64 1) := by rw [hW]; go_simp
  have c1 : W.cell? ⟨w.heap.size, 1, none⟩ = some (.int .i64 3) := by rw [hW]; go_simp
  have c2 : W.cell? ⟨w.heap.size, 2, none⟩ = some (.int .i64 3) := by rw [hW]; go_simp
  have c3 : W.cell? ⟨w.heap.size, 3, none⟩ = some (.int .i64 3) := by rw [hW]; go_simp
  have c4 : W.cell? ⟨w.heap.size, 4, none⟩ = some (.int .i64 id) := by rw [hW]; go_simp
  have c5 : W.cell? ⟨w.heap.size, 5, none⟩ = some (.int .i64 sr) := by rw [hW]; go_simp
  have hbW : Below w.heap.size w W := by rw [hW]; go_grown
  rw [← hW]
  clear hW
  have hne : w.heap.size ≠ g := by have := h.1.facts.2.2.2.2.2; omega
  have hJW := h.below' hbW
  go_region_held3 (fun w' => Keep g w w' ∧ w'.cell? ⟨w.heap.size, 0, none⟩ = some (.int .i64 1) ∧ w'.cell? ⟨w.heap.size, 1, none⟩ = some (.int .i64 3) ∧ w'.cell? ⟨w.heap.size, 2, none⟩ = some (.int .i64 3) ∧ w'.cell? ⟨w.heap.size, 3, none⟩ = some (.int .i64 3) ∧ w'.cell? ⟨w.heap.size, 4, none⟩ = some (.int .i64 id) ∧ w'.cell? ⟨w.heap.size, 5, none⟩ = some (.int .i64 sr))
    (first | assumption | exact keep6 (by assumption) (Keep.set (by assumption)) hne | exact keep6 (by assumption) (Keep.of_below (by assumption)) hne | exact keep6 (by assumption) (by assumption) hne | (refine ⟨Keep.of_below (btr hbW ?_), c0, c1, c2, c3, c4, c5⟩; go_grown; done))
    (first | (go_at_call 92; refine (status_of 1 3 3 3 id iter F q _ okay17 h1 h2 hF hn hq).mono ?_; rw [hk']; rintro e w1 ⟨rfl, hb⟩; have hJ1 := hJW.below' (btr (by go_grown) hb)) | (go_at_call 90; refine (rtoken_of id sr iter st _).mono ?_; rintro e w2 ⟨rfl, hb2⟩; have hJ2 := hJ1.below' hb2) | (go_at_call 93; refine (rdrop_yes S g k xs (tOf sr iter st) _ _ hJ2 hx hat hm).mono ?_; rintro e w3 ⟨rfl, hJ3, hK3⟩))
  all_goals
    go_wp2_with fail
    go_ret
    exact ⟨rfl, hJ3, And.left (by assumption)⟩
set_option maxHeartbeats 2000000 in
set_option maxHeartbeats 2000000 in
theorem plan17 (w : World) : Calls Try.prog 31 #[] w fun e w' => e = .returned (.agg #[.int .i64 1, .int .i64 3, .int .i64 3, .int .i64 3]) ∧ Below w.heap.size w w' := by
  go_enter Try.func31, Try.ntmps31
  go_wp2_with fail
  exact bodyPost_ret (v := .agg #[.int .i64 1, .int .i64 3, .int .i64 3, .int .i64 3]) (by simp [results, Try.results31, go_sem]) rfl ⟨rfl, by go_grown⟩
theorem new17 (id sr : Int) (w : World) : Calls Try.prog 32 #[.agg #[.int .i64 1, .int .i64 3, .int .i64 3, .int .i64 3], .int .i64 id, .int .i64 sr] w fun e w' => e = .returned (.agg #[.int .i64 1, .int .i64 3, .int .i64 3, .int .i64 3, .int .i64 id, .int .i64 sr]) ∧ Below w.heap.size w w' := by
  go_enter Try.func32, Try.ntmps32
  go_wp2_with fail
  exact bodyPost_ret (v := .agg #[.int .i64 1, .int .i64 3, .int .i64 3, .int .i64 3, .int .i64 id, .int .i64 sr]) (by simp [results, Try.results32, go_sem]) rfl ⟨rfl, by go_grown⟩
end Go.Proofs.Ytegbifphekhgkaa
