/- The contracts of layer 12 (ticket) at words that there are not; the state of the law TicketDoes: a store and its mirror, and three rows. -/
import Derived.Test.YtfigabjcmpakeabTickC
import Derived.Test.YtfigabjcmpakeabJoinDo
import Derived.Test.YtfigabjcmpakeabApp1
namespace Go.Proofs.Ytfigabjcmpakeab.ticketDoes
open Go.ChangeShapes Go.WideShapes Go.ChangeAt Go.RowKit
set_option linter.unusedVariables false
set_option linter.unusedSimpArgs false
theorem row_below2 {w w' : World} {base : Nat} {v : Value} {n e s : Nat} {xs : List Value} (h : w.ownsRow base e s v n xs) (hk : ∀ k, v.ownBlock = some k → w'.heap[k]? = w.heap[k]?) : w'.ownsRow base e s v n xs := by
  obtain ⟨hl, h⟩ := h
  refine ⟨hl, ?_⟩
  rcases h with h | ⟨g, cap, cur, rfl, hg, hh, h1, h2, h3, h4⟩
  · exact .inl h
  · exact .inr ⟨g, cap, cur, rfl, hg, (hk g rfl).trans hh, h1, h2, h3, h4⟩
theorem load_out (S g : Nat) (xs : List Int) (at_ : Int) (w : World) (h : StoreAt w S g xs) (hat : at_ < 0 ∨ (xs.length : Int) ≤ at_) : Calls Try.prog 45 #[.pointer (some ⟨S, 0, none⟩), .int .i64 at_] w fun e w' => e = .returned (.tuple #[.int .i64 0, .bool false]) ∧ w = w' := by
  have H := Lib.hid h
  have HA := Lib.hid hat
  clear h hat
  go_enter Try.func45, Try.ntmps45
  go_wp2_with (go_at_call 72; refine (word_out S g xs at_ _ _ H.out HA.out).mono ?_; rintro e w' ⟨rfl, rfl⟩)
  go_ret2
  exact ⟨rfl, rfl⟩
theorem serving_z (a b n : Int) (w : World) (hk : Hid (a + 1 = b)) (h1 : -1048577 ≤ a) (h2 : a ≤ 1048577) : Calls Try.prog 57 #[.agg #[.int .i64 a, .int .i64 n]] w fun e w' => e = .returned (.int .i64 b) ∧ Below w.heap.size w w' := by
  have e := hk.out
  have hw : wrap64 (a + 1) = b := by unfold wrap64; omega
  go_enter Try.func57, Try.ntmps57
  go_wp2_with fail
  go_ret
  exact ⟨by simp [e], by go_grown⟩
theorem task_out (S g : Nat) (xs : List Int) (a : Int) (w0 w : World) (h : J w0 w S g xs) (hat : a < 0 ∨ (xs.length : Int) ≤ a) :
    Calls Try.prog 18 #[.pointer (some ⟨S, 0, none⟩), .int .i64 a] w fun e w' => e = .returned (.agg #[.int .i64 a, .int .i64 0]) ∧ J w0 w' S g xs ∧ Keep g w w' := by
  have HA := Lib.hid hat
  clear hat
  go_enter Try.func18, Try.ntmps18
  go_wp2_with fail
  have hbW : Below w.heap.size w (w.alloc (Obj.cells #[Value.int IntKind.i64 0, Value.int IntKind.i64 0] 33)) := by go_grown
  have hJ0 := h.below' hbW
  refine (add_out S g xs a 1 _ hJ0.1 HA.out).mono ?_
  rintro e w1 ⟨rfl, rfl⟩
  have hB := Lib.hid (And.intro hJ0 (Keep.of_below (g := g) hbW))
  have hH := Lib.hid h
  clear hJ0 hbW h
  go_wp2_with fail
  refine bodyPost_ret (v := .agg #[.int .i64 a, .int .i64 0]) (by simp [results, Try.results18, go_sem]) rfl ⟨rfl, hH.out.below' (by go_grown), Keep.of_below (by go_grown)⟩
theorem tmine_b (S g k : Nat) (xs : List Int) (a n x : Int) (q : Bool) (w0 w : World) (h : J w0 w S g xs) (hk : Hid (a + 1 = k)) (hx : Hid (xs.getD k 0 = x)) (hq : Hid ((x == n) = q)) (hat : k < xs.length) (hm : xs.length ≤ 1048576) :
    Calls Try.prog 20 #[.agg #[.int .i64 a, .int .i64 n], .pointer (some ⟨S, 0, none⟩)] w fun e w' => e = .returned (.bool q) ∧ Below w.heap.size w w' := by
  have hq' := hq.out
  go_enter Try.func20, Try.ntmps20
  go_wp2_with fail
  refine (tserving_of a n k _ hk (by omega)).mono ?_
  rintro e w1 ⟨rfl, hb⟩
  have cc0 : w1.cell? ⟨w.heap.size, 0, none⟩ = some (.int .i64 a) := (hb.cell (p := ⟨w.heap.size, 0, none⟩) (by simp)).trans (by go_simp)
  have cc1 : w1.cell? ⟨w.heap.size, 1, none⟩ = some (.int .i64 n) := (hb.cell (p := ⟨w.heap.size, 1, none⟩) (by simp)).trans (by go_simp)
  have hb2 : Below w.heap.size w w1 := Below.trans (by go_grown) (hb.mono (by simp))
  have hJ := h.below' hb2
  clear hb
  have HX := hx
  go_wp2_with (first | (go_at_call 45; refine (load_in S g xs k _ hJ.1 hat hm).mono ?_; rintro e w' ⟨rfl, rfl⟩; rw [HX.out]))
  go_ret
  exact ⟨rfl, hb2⟩
theorem tmine_ob (S g : Nat) (xs : List Int) (a b n : Int) (w0 w : World) (h : J w0 w S g xs) (hk : Hid (a + 1 = b)) (h1 : -1048577 ≤ a) (h2 : a ≤ 1048577) (hat : b < 0 ∨ (xs.length : Int) ≤ b) :
    Calls Try.prog 20 #[.agg #[.int .i64 a, .int .i64 n], .pointer (some ⟨S, 0, none⟩)] w fun e w' => e = .returned (.bool false) ∧ Below w.heap.size w w' := by
  have HA := Lib.hid hat
  clear hat
  go_enter Try.func20, Try.ntmps20
  go_wp2_with fail
  refine (serving_z a b n _ hk h1 h2).mono ?_
  rintro e w1 ⟨rfl, hb⟩
  have hb2 : Below w.heap.size w w1 := Below.trans (by go_grown) (hb.mono (by simp))
  have hJ := h.below' hb2
  clear hb
  go_wp2_with (first | (go_at_call 45; refine (load_out S g xs b _ hJ.1 HA.out).mono ?_; rintro e w' ⟨rfl, rfl⟩))
  go_ret
  exact ⟨rfl, hb2⟩
theorem tmine_out (S g : Nat) (xs : List Int) (a b n : Int) (w0 w : World) (h : J w0 w S g xs) (hk : Hid (a + 1 = b)) (h1 : -1048577 ≤ a) (h2 : a ≤ 1048577) (hat : b < 0 ∨ (xs.length : Int) ≤ b) :
    Calls Try.prog 20 #[.agg #[.int .i64 a, .int .i64 n], .pointer (some ⟨S, 0, none⟩)] w fun e w' => e = .returned (.bool false) ∧ J w0 w' S g xs ∧ Keep g w w' := by
  have HA := Lib.hid hat
  clear hat
  go_enter Try.func20, Try.ntmps20
  go_wp2_with fail
  refine (serving_z a b n _ hk h1 h2).mono ?_
  rintro e w1 ⟨rfl, hb⟩
  have hb2 : Below w.heap.size w w1 := Below.trans (by go_grown) (hb.mono (by simp))
  have hJ := h.below' hb2
  clear hb
  go_wp2_with (first | (go_at_call 45; refine (load_out S g xs b _ hJ.1 HA.out).mono ?_; rintro e w' ⟨rfl, rfl⟩))
  go_ret
  exact ⟨rfl, hJ, Keep.of_below hb2⟩
theorem keepT {w w' w'' : World} {B : Nat} {v0 v1 : Value} (h : Below w.heap.size w w' ∧ w'.cell? ⟨B, 0, none⟩ = some v0 ∧ w'.cell? ⟨B, 1, none⟩ = some v1) (hb : Below w'.heap.size w' w'') : Below w.heap.size w w'' ∧ w''.cell? ⟨B, 0, none⟩ = some v0 ∧ w''.cell? ⟨B, 1, none⟩ = some v1 :=
  ⟨btr h.1 hb, (Keep.of_below (g := B + 1) hb).cell h.2.1 (by omega), (Keep.of_below (g := B + 1) hb).cell h.2.2 (by omega)⟩
theorem b_drew (w : World) : Below w.heap.size w w.drew := (Below.refl _ _).trans ⟨rfl, rfl, rfl, Nat.le_refl _, fun _ _ => rfl⟩
theorem tleave_out (S g : Nat) (xs : List Int) (a b n m : Int) (w0 w : World) (h : J w0 w S g xs) (hk : Hid (a + 1 = b)) (hn : Hid (wrap64 (n + 1) = m)) (h1 : -1048577 ≤ a) (h2 : a ≤ 1048577) (hat : b < 0 ∨ (xs.length : Int) ≤ b) :
    Calls Try.prog 21 #[.agg #[.int .i64 a, .int .i64 n], .pointer (some ⟨S, 0, none⟩)] w fun e w' => e = .returned (.bool false) ∧ J w0 w' S g xs ∧ Keep g w w' := by
  have HA := Lib.hid hat
  clear hat
  go_enter Try.func21, Try.ntmps21
  go_wp2_with fail
  obtain ⟨W, hW⟩ : ∃ W, W = w.alloc (Obj.cells #[Value.int IntKind.i64 a, Value.int IntKind.i64 n] 33) := ⟨_, rfl⟩
  have c0 : W.cell? ⟨w.heap.size, 0, none⟩ = some (.int .i64 a) := by rw [hW]; go_simp
  have c1 : W.cell? ⟨w.heap.size, 1, none⟩ = some (.int .i64 n) := by rw [hW]; go_simp
  have hbW : Below w.heap.size w W := by rw [hW]; go_grown
  rw [← hW]
  clear hW
  have hne : w.heap.size ≠ g := by have := h.1.facts.2.2.2.2.2; omega
  have hn2 : IntKind.i64.wrap (n + 1) = m := by have := hn.out; rw [IntKind.wrap_i64]; unfold wrap64 at this; omega
  go_region_held3 (fun w' => Below w.heap.size w w' ∧ w'.cell? ⟨w.heap.size, 0, none⟩ = some (.int .i64 a) ∧ w'.cell? ⟨w.heap.size, 1, none⟩ = some (.int .i64 n))
    (first | with_reducible assumption | exact keepT (by with_reducible assumption) (by with_reducible assumption) | exact keepT ⟨hbW, c0, c1⟩ (b_drew W))
    (first | (go_at_call 57; refine (serving_z a b n _ hk h1 h2).mono ?_; rintro e w1 ⟨rfl, hb⟩)
           | (go_at_call 41; refine (store_out S g xs b _ _ (h.below' (And.left (by assumption))).1 HA.out).mono ?_; rintro e w2 ⟨rfl, rfl⟩))
  all_goals
    go_wp2_with fail
    go_ret
    exact ⟨rfl, h.below' (And.left (by assumption)), Keep.of_below (And.left (by assumption))⟩
theorem in_yes (b : Option Addr) (n c : Nat) (i : Nat) (w : World) (h : i < n) (hn : n ≤ 100000) : Calls Try.prog 17 #[.slice b n c, .int .i64 i] w fun e w' => e = .returned (.bool true) ∧ w = w' := by
  have h1 : (i : Int) < (n : Int) := by omega
  have h0 : (0 : Int) ≤ (i : Int) := by omega
  go_enter Try.func17, Try.ntmps17
  go_wp2
  go_ret
  exact ⟨rfl, rfl⟩
theorem in_no (b : Option Addr) (n c : Nat) (i : Int) (w : World) (h : i < 0 ∨ (n : Int) ≤ i) (hn : n ≤ 100000) : Calls Try.prog 17 #[.slice b n c, .int .i64 i] w fun e w' => e = .returned (.bool false) ∧ w = w' := by
  by_cases h1 : i < 0
  · clear h
    go_enter Try.func17, Try.ntmps17
    go_wp2
    go_ret
    exact ⟨rfl, rfl⟩
  · have h2 : (n : Int) ≤ i := by omega
    have h0 : 0 ≤ i := by omega
    have hd : decide (i < (n : Int)) = false := by simp; omega
    clear h h1
    go_enter Try.func17, Try.ntmps17
    go_wp2
    go_ret
    exact ⟨rfl, rfl⟩
end Go.Proofs.Ytfigabjcmpakeab.ticketDoes
