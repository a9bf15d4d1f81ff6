/- A store that is looked at: the accesses, and a step of the law StoreSeen (layer 9). -/
import Derived.Test.YtfigabjcmpakeaaSeen2
namespace Go.Proofs.Ytfigabjcmpakeaa.sn
open Go.ChangeShapes Go.WideShapes Go.ChangeAt Go.RowKit
open Go.Proofs.Ytfigabjcmpakeaa.fx
set_option linter.unusedVariables false
set_option linter.unusedSimpArgs false
variable {w0 w w' : World} {S g V B : Nat} {vs : Value} {xs : List Int} {L : List SB}
theorem load_hs (i : Nat) (x : Int) (h : HS w0 w S g V B vs xs L) (hi : i < xs.length) (hm : xs.length ≤ 300) (hL : L.length ≤ 1000) (hx : Hid (xs.getD i 0 = x)) : Calls Try.prog 26 #[.pointer (some ⟨S, 0, none⟩), .int .i64 i] w fun e w' => e = .returned (.tuple #[.int .i64 x, .bool true]) ∧ HP w0 w S g V B vs xs (L ++ [((i : Int), false)]) w' := by
  have H := Lib.hid h
  have hi' := hi
  clear h
  go_enter Try.func26, Try.ntmps26
  go_wp2_with fail
  refine (word_hs i false H.out hi hm hL).mono ?_
  rintro e w1 ⟨rfl, vs', h1, hk, ho⟩
  obtain ⟨_, _, h2, h3, _, _, _⟩ := h1.st.facts
  have hc := h2 i hi
  have hf := h3 i
  rw [hx.out] at hc
  have H1 := Lib.hid h1
  clear h1 h2 h3
  go_wp2_with fail
  go_ret2
  exact ⟨rfl, vs', H1.out, hk, ho⟩
theorem store_hs (i : Nat) (x n : Int) (h : HS w0 w S g V B vs xs L) (hi : i < xs.length) (hm : xs.length ≤ 300) (hL : L.length ≤ 1000) (hx : Hid (xs.getD i 0 = x)) : Calls Try.prog 25 #[.pointer (some ⟨S, 0, none⟩), .int .i64 i, .int .i64 n] w fun e w' => e = .returned (.bool true) ∧ HP w0 w S g V B vs (xs.set i n) (L ++ [((i : Int), true)]) w' := by
  have H := Lib.hid h
  have hi' := hi
  clear h
  go_enter Try.func25, Try.ntmps25
  go_wp2_with fail
  refine (word_hs i true H.out hi hm hL).mono ?_
  rintro e w1 ⟨rfl, vs', h1, hk, ho⟩
  obtain ⟨_, _, h2, h3, _, _, _⟩ := h1.st.facts
  have hc := h2 i hi
  have hf := h3 i
  rw [hx.out] at hc
  have H1 := Lib.hid h1
  clear h1 h2 h3
  go_wp2_with fail
  go_ret
  exact ⟨rfl, vs', H1.out.set i n, hk.set, ho⟩
theorem add_hs (i : Nat) (x n : Int) (h : HS w0 w S g V B vs xs L) (hi : i < xs.length) (hm : xs.length ≤ 300) (hL : L.length ≤ 1000) (hx : Hid (xs.getD i 0 = x)) : Calls Try.prog 27 #[.pointer (some ⟨S, 0, none⟩), .int .i64 i, .int .i64 n] w fun e w' => e = .returned (.tuple #[.int .i64 x, .bool true]) ∧ HP w0 w S g V B vs (xs.set i (wrap64 (x + n))) (L ++ [((i : Int), true)]) w' := by
  have H := Lib.hid h
  have hi' := hi
  clear h
  go_enter Try.func27, Try.ntmps27
  go_wp2_with fail
  refine (word_hs i true H.out hi hm hL).mono ?_
  rintro e w1 ⟨rfl, vs', h1, hk, ho⟩
  obtain ⟨_, _, h2, h3, _, _, _⟩ := h1.st.facts
  have hc := h2 i hi
  have hf := h3 i
  rw [hx.out] at hc
  have H1 := Lib.hid h1
  clear h1 h2 h3
  go_wp2_with fail
  go_ret2
  exact ⟨rfl, vs', H1.out.set i _, hk.set, ho⟩
theorem swap_hy (i : Nat) (x n : Int) (h : HS w0 w S g V B vs xs L) (hi : i < xs.length) (hm : xs.length ≤ 300) (hL : L.length ≤ 1000) (hx : Hid (xs.getD i 0 = x)) : Calls Try.prog 59 #[.pointer (some ⟨S, 0, none⟩), .int .i64 i, .int .i64 x, .int .i64 n] w fun e w' => e = .returned (.tuple #[.int .i64 x, .bool true]) ∧ HP w0 w S g V B vs (xs.set i n) (L ++ [((i : Int), true)]) w' := by
  have H := Lib.hid h
  have hi' := hi
  clear h
  go_enter Try.func59, Try.ntmps59
  go_wp2_with fail
  refine (word_hs i true H.out hi hm hL).mono ?_
  rintro e w1 ⟨rfl, vs', h1, hk, ho⟩
  obtain ⟨_, _, h2, h3, _, _, _⟩ := h1.st.facts
  have hc := h2 i hi
  have hf := h3 i
  rw [hx.out] at hc
  have H1 := Lib.hid h1
  clear h1 h2 h3
  go_wp2_with fail
  go_ret2
  exact ⟨rfl, vs', H1.out.set i n, hk.set, ho⟩
theorem swap_hn (i : Nat) (x o n : Int) (h : HS w0 w S g V B vs xs L) (hi : i < xs.length) (hm : xs.length ≤ 300) (hL : L.length ≤ 1000) (hx : Hid (xs.getD i 0 = x)) (hxo : (x == o) = false) : Calls Try.prog 59 #[.pointer (some ⟨S, 0, none⟩), .int .i64 i, .int .i64 o, .int .i64 n] w fun e w' => e = .returned (.tuple #[.int .i64 x, .bool true]) ∧ HP w0 w S g V B vs xs (L ++ [((i : Int), true)]) w' := by
  have H := Lib.hid h
  have hi' := hi
  clear h
  go_enter Try.func59, Try.ntmps59
  go_wp2_with fail
  refine (word_hs i true H.out hi hm hL).mono ?_
  rintro e w1 ⟨rfl, vs', h1, hk, ho⟩
  obtain ⟨_, _, h2, h3, _, _, _⟩ := h1.st.facts
  have hc := h2 i hi
  have hf := h3 i
  rw [hx.out] at hc
  have H1 := Lib.hid h1
  clear h1 h2 h3
  go_wp2_with fail
  go_ret2
  exact ⟨rfl, vs', H1.out, hk, ho⟩
theorem load_ho (at_ : Int)  (h : HS w0 w S g V B vs xs L) (hat : at_ < 0 ∨ (xs.length : Int) ≤ at_) (hm : xs.length ≤ 300) : Calls Try.prog 26 #[.pointer (some ⟨S, 0, none⟩), .int .i64 at_] w fun e w' => e = .returned (.tuple #[.int .i64 0, .bool false]) ∧ w = w' := by
  have H := Lib.hid h
  have HA := Lib.hid hat
  clear h hat
  go_enter Try.func26, Try.ntmps26
  go_wp2_with (go_at_call 61; refine (word_ho at_ _ H.out HA.out hm).mono ?_; rintro e w' ⟨rfl, rfl⟩)
  go_ret2
  exact ⟨rfl, rfl⟩
theorem store_ho (at_ : Int) (n : Int) (h : HS w0 w S g V B vs xs L) (hat : at_ < 0 ∨ (xs.length : Int) ≤ at_) (hm : xs.length ≤ 300) : Calls Try.prog 25 #[.pointer (some ⟨S, 0, none⟩), .int .i64 at_, .int .i64 n] w fun e w' => e = .returned (.bool false) ∧ w = w' := by
  have H := Lib.hid h
  have HA := Lib.hid hat
  clear h hat
  go_enter Try.func25, Try.ntmps25
  go_wp2_with (go_at_call 61; refine (word_ho at_ _ H.out HA.out hm).mono ?_; rintro e w' ⟨rfl, rfl⟩)
  go_ret
  exact ⟨rfl, rfl⟩
theorem add_ho (at_ : Int) (n : Int) (h : HS w0 w S g V B vs xs L) (hat : at_ < 0 ∨ (xs.length : Int) ≤ at_) (hm : xs.length ≤ 300) : Calls Try.prog 27 #[.pointer (some ⟨S, 0, none⟩), .int .i64 at_, .int .i64 n] w fun e w' => e = .returned (.tuple #[.int .i64 0, .bool false]) ∧ w = w' := by
  have H := Lib.hid h
  have HA := Lib.hid hat
  clear h hat
  go_enter Try.func27, Try.ntmps27
  go_wp2_with (go_at_call 61; refine (word_ho at_ _ H.out HA.out hm).mono ?_; rintro e w' ⟨rfl, rfl⟩)
  go_ret2
  exact ⟨rfl, rfl⟩
theorem swap_ho (at_ : Int) (o n : Int) (h : HS w0 w S g V B vs xs L) (hat : at_ < 0 ∨ (xs.length : Int) ≤ at_) (hm : xs.length ≤ 300) : Calls Try.prog 59 #[.pointer (some ⟨S, 0, none⟩), .int .i64 at_, .int .i64 o, .int .i64 n] w fun e w' => e = .returned (.tuple #[.int .i64 0, .bool false]) ∧ w = w' := by
  have H := Lib.hid h
  have HA := Lib.hid hat
  clear h hat
  go_enter Try.func59, Try.ntmps59
  go_wp2_with (go_at_call 61; refine (word_ho at_ _ H.out HA.out hm).mono ?_; rintro e w' ⟨rfl, rfl⟩)
  go_ret2
  exact ⟨rfl, rfl⟩
theorem dh_0 (i : Nat) (x : Int) (n o : Int) (h : HS w0 w S g V B vs xs L) (hm : xs.length ≤ 300) (hL : L.length ≤ 1000) (hi : i < xs.length) (hx : Hid (xs.getD i 0 = x)) : Calls Try.prog 19 #[.pointer (some ⟨S, 0, none⟩), .agg #[.int .i64 0, .int .i64 i, .int .i64 n, .int .i64 o]] w fun e w' => e = .returned (.tuple #[.int .i64 x, .bool true]) ∧ HP w0 w S g V B vs xs (L ++ [((i : Int), false)]) w' := by
  have hB : Below w.heap.size w (w.alloc (Obj.cells #[.int .i64 0, .int .i64 i, .int .i64 n, .int .i64 o] 29)) := by go_grown
  have H := Lib.hid (h.below hB)
  have HB := Lib.hid hB
  clear h hB
  go_enter Try.func19, Try.ntmps19
  go_wp2_with (go_at_call 26; refine (load_hs i x H.out hi hm hL hx).mono ?_; rintro e w1 ⟨rfl, vs2, h1, hk, ho⟩)
  go_ret2
  exact ⟨rfl, vs2, h1, .from HB.out hk, ho.imp id fun ⟨k, a, b⟩ => ⟨k, a, Nat.le_trans HB.out.size b⟩⟩
theorem dh_1 (i : Nat) (x : Int) (n o : Int) (h : HS w0 w S g V B vs xs L) (hm : xs.length ≤ 300) (hL : L.length ≤ 1000) (hi : i < xs.length) (hx : Hid (xs.getD i 0 = x)) : Calls Try.prog 19 #[.pointer (some ⟨S, 0, none⟩), .agg #[.int .i64 1, .int .i64 i, .int .i64 n, .int .i64 o]] w fun e w' => e = .returned (.tuple #[.int .i64 0, .bool true]) ∧ HP w0 w S g V B vs (xs.set i n) (L ++ [((i : Int), true)]) w' := by
  have hB : Below w.heap.size w (w.alloc (Obj.cells #[.int .i64 1, .int .i64 i, .int .i64 n, .int .i64 o] 29)) := by go_grown
  have H := Lib.hid (h.below hB)
  have HB := Lib.hid hB
  clear h hB
  go_enter Try.func19, Try.ntmps19
  go_wp2_with (go_at_call 25; refine (store_hs i x n H.out hi hm hL hx).mono ?_; rintro e w1 ⟨rfl, vs2, h1, hk, ho⟩)
  go_ret2
  exact ⟨rfl, vs2, h1, .from HB.out hk, ho.imp id fun ⟨k, a, b⟩ => ⟨k, a, Nat.le_trans HB.out.size b⟩⟩
theorem dh_2 (i : Nat) (x : Int) (n o : Int) (h : HS w0 w S g V B vs xs L) (hm : xs.length ≤ 300) (hL : L.length ≤ 1000) (hi : i < xs.length) (hx : Hid (xs.getD i 0 = x)) : Calls Try.prog 19 #[.pointer (some ⟨S, 0, none⟩), .agg #[.int .i64 2, .int .i64 i, .int .i64 n, .int .i64 o]] w fun e w' => e = .returned (.tuple #[.int .i64 x, .bool true]) ∧ HP w0 w S g V B vs (xs.set i (wrap64 (x + n))) (L ++ [((i : Int), true)]) w' := by
  have hB : Below w.heap.size w (w.alloc (Obj.cells #[.int .i64 2, .int .i64 i, .int .i64 n, .int .i64 o] 29)) := by go_grown
  have H := Lib.hid (h.below hB)
  have HB := Lib.hid hB
  clear h hB
  go_enter Try.func19, Try.ntmps19
  go_wp2_with (go_at_call 27; refine (add_hs i x n H.out hi hm hL hx).mono ?_; rintro e w1 ⟨rfl, vs2, h1, hk, ho⟩)
  go_ret2
  exact ⟨rfl, vs2, h1, .from HB.out hk, ho.imp id fun ⟨k, a, b⟩ => ⟨k, a, Nat.le_trans HB.out.size b⟩⟩
theorem dh_3y (i : Nat) (n o : Int) (h : HS w0 w S g V B vs xs L) (hm : xs.length ≤ 300) (hL : L.length ≤ 1000) (hi : i < xs.length) (hx : Hid (xs.getD i 0 = o)) : Calls Try.prog 19 #[.pointer (some ⟨S, 0, none⟩), .agg #[.int .i64 3, .int .i64 i, .int .i64 n, .int .i64 o]] w fun e w' => e = .returned (.tuple #[.int .i64 o, .bool true]) ∧ HP w0 w S g V B vs (xs.set i n) (L ++ [((i : Int), true)]) w' := by
  have hB : Below w.heap.size w (w.alloc (Obj.cells #[.int .i64 3, .int .i64 i, .int .i64 n, .int .i64 o] 29)) := by go_grown
  have H := Lib.hid (h.below hB)
  have HB := Lib.hid hB
  clear h hB
  go_enter Try.func19, Try.ntmps19
  go_wp2_with (go_at_call 59; refine (swap_hy i o n H.out hi hm hL hx).mono ?_; rintro e w1 ⟨rfl, vs2, h1, hk, ho⟩)
  go_ret2
  exact ⟨rfl, vs2, h1, .from HB.out hk, ho.imp id fun ⟨k, a, b⟩ => ⟨k, a, Nat.le_trans HB.out.size b⟩⟩
theorem dh_3n (i : Nat) (x : Int) (n o : Int) (h : HS w0 w S g V B vs xs L) (hm : xs.length ≤ 300) (hL : L.length ≤ 1000) (hi : i < xs.length) (hx : Hid (xs.getD i 0 = x)) (hxo : Hid (¬ x = o)) : Calls Try.prog 19 #[.pointer (some ⟨S, 0, none⟩), .agg #[.int .i64 3, .int .i64 i, .int .i64 n, .int .i64 o]] w fun e w' => e = .returned (.tuple #[.int .i64 x, .bool true]) ∧ HP w0 w S g V B vs xs (L ++ [((i : Int), true)]) w' := by
  have hB : Below w.heap.size w (w.alloc (Obj.cells #[.int .i64 3, .int .i64 i, .int .i64 n, .int .i64 o] 29)) := by go_grown
  have H := Lib.hid (h.below hB)
  have HB := Lib.hid hB
  clear h hB
  go_enter Try.func19, Try.ntmps19
  go_wp2_with (go_at_call 59; refine (swap_hn i x o n H.out hi hm hL hx (by simpa using hxo.out)).mono ?_; rintro e w1 ⟨rfl, vs2, h1, hk, ho⟩)
  go_ret2
  exact ⟨rfl, vs2, h1, .from HB.out hk, ho.imp id fun ⟨k, a, b⟩ => ⟨k, a, Nat.le_trans HB.out.size b⟩⟩
theorem dh_out_0 (at_ : Int) (n o : Int) (h : HS w0 w S g V B vs xs L) (hm : xs.length ≤ 300) (hL : L.length ≤ 1000) (hat : Hid (at_ < 0 ∨ (xs.length : Int) ≤ at_)) : Calls Try.prog 19 #[.pointer (some ⟨S, 0, none⟩), .agg #[.int .i64 0, .int .i64 at_, .int .i64 n, .int .i64 o]] w fun e w' => e = .returned (.tuple #[.int .i64 0, .bool false]) ∧ HP w0 w S g V B vs xs L w' := by
  have hB : Below w.heap.size w (w.alloc (Obj.cells #[.int .i64 0, .int .i64 at_, .int .i64 n, .int .i64 o] 29)) := by go_grown
  have H := Lib.hid (h.below hB)
  have HB := Lib.hid hB
  clear h hB
  go_enter Try.func19, Try.ntmps19
  go_wp2_with (go_at_call 26; refine (load_ho at_ H.out hat.out hm).mono ?_; rintro e w1 ⟨rfl, rfl⟩)
  go_ret2
  exact ⟨rfl, vs, H.out, .from HB.out (.refl _ _ _ _), .inl rfl⟩
theorem dh_out_1 (at_ : Int) (n o : Int) (h : HS w0 w S g V B vs xs L) (hm : xs.length ≤ 300) (hL : L.length ≤ 1000) (hat : Hid (at_ < 0 ∨ (xs.length : Int) ≤ at_)) : Calls Try.prog 19 #[.pointer (some ⟨S, 0, none⟩), .agg #[.int .i64 1, .int .i64 at_, .int .i64 n, .int .i64 o]] w fun e w' => e = .returned (.tuple #[.int .i64 0, .bool false]) ∧ HP w0 w S g V B vs xs L w' := by
  have hB : Below w.heap.size w (w.alloc (Obj.cells #[.int .i64 1, .int .i64 at_, .int .i64 n, .int .i64 o] 29)) := by go_grown
  have H := Lib.hid (h.below hB)
  have HB := Lib.hid hB
  clear h hB
  go_enter Try.func19, Try.ntmps19
  go_wp2_with (go_at_call 25; refine (store_ho at_ n H.out hat.out hm).mono ?_; rintro e w1 ⟨rfl, rfl⟩)
  go_ret2
  exact ⟨rfl, vs, H.out, .from HB.out (.refl _ _ _ _), .inl rfl⟩
theorem dh_out_2 (at_ : Int) (n o : Int) (h : HS w0 w S g V B vs xs L) (hm : xs.length ≤ 300) (hL : L.length ≤ 1000) (hat : Hid (at_ < 0 ∨ (xs.length : Int) ≤ at_)) : Calls Try.prog 19 #[.pointer (some ⟨S, 0, none⟩), .agg #[.int .i64 2, .int .i64 at_, .int .i64 n, .int .i64 o]] w fun e w' => e = .returned (.tuple #[.int .i64 0, .bool false]) ∧ HP w0 w S g V B vs xs L w' := by
  have hB : Below w.heap.size w (w.alloc (Obj.cells #[.int .i64 2, .int .i64 at_, .int .i64 n, .int .i64 o] 29)) := by go_grown
  have H := Lib.hid (h.below hB)
  have HB := Lib.hid hB
  clear h hB
  go_enter Try.func19, Try.ntmps19
  go_wp2_with (go_at_call 27; refine (add_ho at_ n H.out hat.out hm).mono ?_; rintro e w1 ⟨rfl, rfl⟩)
  go_ret2
  exact ⟨rfl, vs, H.out, .from HB.out (.refl _ _ _ _), .inl rfl⟩
theorem dh_out_3 (at_ : Int) (n o : Int) (h : HS w0 w S g V B vs xs L) (hm : xs.length ≤ 300) (hL : L.length ≤ 1000) (hat : Hid (at_ < 0 ∨ (xs.length : Int) ≤ at_)) : Calls Try.prog 19 #[.pointer (some ⟨S, 0, none⟩), .agg #[.int .i64 3, .int .i64 at_, .int .i64 n, .int .i64 o]] w fun e w' => e = .returned (.tuple #[.int .i64 0, .bool false]) ∧ HP w0 w S g V B vs xs L w' := by
  have hB : Below w.heap.size w (w.alloc (Obj.cells #[.int .i64 3, .int .i64 at_, .int .i64 n, .int .i64 o] 29)) := by go_grown
  have H := Lib.hid (h.below hB)
  have HB := Lib.hid hB
  clear h hB
  go_enter Try.func19, Try.ntmps19
  go_wp2_with (go_at_call 59; refine (swap_ho at_ o n H.out hat.out hm).mono ?_; rintro e w1 ⟨rfl, rfl⟩)
  go_ret2
  exact ⟨rfl, vs, H.out, .from HB.out (.refl _ _ _ _), .inl rfl⟩
theorem dh_4 (at_ : Int) (n o : Int) (h : HS w0 w S g V B vs xs L) (hm : xs.length ≤ 300) (hL : L.length ≤ 1000) (b1 : -9223372036854775808 ≤ at_) (b2 : at_ ≤ 9223372036854775807) (b3 : -9223372036854775808 ≤ n) (b4 : n ≤ 9223372036854775807) : Calls Try.prog 19 #[.pointer (some ⟨S, 0, none⟩), .agg #[.int .i64 4, .int .i64 at_, .int .i64 n, .int .i64 o]] w fun e w' => e = .returned (.tuple #[.int .i64 0, .bool true]) ∧ HP w0 w S g V B vs (storeDoes.fillF xs at_ n o) L w' := by
  have hB : Below w.heap.size w (w.alloc (Obj.cells #[.int .i64 4, .int .i64 at_, .int .i64 n, .int .i64 o] 29)) := by go_grown
  have H := Lib.hid (h.below hB)
  have HB := Lib.hid hB
  clear h hB
  go_enter Try.func19, Try.ntmps19
  go_wp2_with (go_at_call 28; refine (fx.fill_any S g at_ n xs _ o w0 _ H.out.st H.out.sn.bl H.out.lt.2.2.2.2.1 b1 b2 b4 hm).mono ?_; rintro e w1 ⟨rfl, ys, h1, h2, h3, h4, h5⟩)
  go_ret2
  exact ⟨rfl, vs, by rw [← storeDoes.fillF_of xs ys at_ n o h4 h5]; exact H.out.fill h1 h2 h3, .from HB.out (KG.keep (.refl _ _ _ _) h2), .inl rfl⟩
end Go.Proofs.Ytfigabjcmpakeaa.sn
