/- A walk at a deque, step by step and to its end; what it tells (layer 13). -/
import Derived.Test.YtegbifphekhgkaaDqF
import Derived.Deep.RegionHeld3
import Derived.Deep.DrawnRows
namespace Go.Proofs.Ytegbifphekhgkaa
open Go.ChangeShapes Go.WideShapes Go.ChangeAt Go.RowKit
attribute [local go_sem ↓] Go.wp_at_zero Go.wp_at_succ
set_option linter.unusedVariables false
set_option linter.unusedSimpArgs false
def StepC (S g A : Nat) (xs : List Int) (o : Wk) (xs' : List Int) (o' : Wk) : Prop :=
  ∃ f, o.nx = fnV A f ∧ (∀ args w, (callFunc f args).run Try.prog w = .ok (.enter f args) w) ∧ ∀ w0 w, WS w0 w S g A xs o → Calls Try.prog f #[.pointer (some ⟨A, 0, none⟩), .pointer (some ⟨S, 0, none⟩)] w (Post w0 w S g A xs' o')
/-- Whether a walk has ended. -/
def EndB (A : Nat) (o : Wk) (b : Bool) : Prop := (o.nx = .nilFunc ∧ b = true) ∨ (∃ f, o.nx = fnV A f ∧ b = false)
theorem nn_eq (w : World) : Sem.run Try.prog (binOp .eql 104 .nilFunc .nilFunc) w = .ok (.bool true) w := by kernel_rfl
theorem fn_eq (f : Fn) (a b : Array Value) (w : World) : Sem.run Try.prog (binOp .eql 104 (.func f a b) .nilFunc) w = .ok (.bool false) w := by kernel_rfl
set_option maxRecDepth 20000 in
theorem ended_of (A : Nat) (o : Wk) (b : Bool) (w : World) (h : WAt w A o) (hb : Hid (EndB A o b)) :
    Calls Try.prog 14 #[.pointer (some ⟨A, 0, none⟩)] w fun e w' => e = .returned (.bool b) ∧ w' = w := by
  obtain ⟨c0, c1, c2, c3, c4, c5, c6, c7, c8, c9, c10, c11, c12, c13, cf⟩ := h.cells
  clear h
  rcases hb.out with ⟨hn, rfl⟩ | ⟨f, hn, rfl⟩
  · rw [hn] at c13
    clear hb hn
    go_enter Try.func14, Try.ntmps14
    go_wp2_with fail
    simp only [nn_eq, fn_eq]
    go_wp2_with fail
    go_ret
    exact ⟨rfl, rfl⟩
  · rw [hn] at c13
    unfold fnV at c13
    clear hb hn
    go_enter Try.func14, Try.ntmps14
    go_wp2_with fail
    simp only [nn_eq, fn_eq]
    go_wp2_with fail
    go_ret
    exact ⟨rfl, rfl⟩
set_option maxRecDepth 20000 in
theorem ended_nil (w : World) : Calls Try.prog 14 #[.pointer none] w fun e w' => e = .returned (.bool true) ∧ w' = w := by
  go_enter Try.func14, Try.ntmps14
  go_wp2_with fail
  go_ret
  exact ⟨rfl, rfl⟩
theorem got_nil (w : World) : Calls Try.prog 22 #[.pointer none] w fun e w' => e = .returned (.tuple #[.int .i64 0, .bool false]) ∧ w' = w := by
  go_enter Try.func22, Try.ntmps22
  go_wp2_with (first | (go_at_call 14; refine (ended_nil _).mono ?_; rintro e w1 ⟨rfl, rfl⟩))
  go_ret2
  exact ⟨rfl, rfl⟩
theorem full_nil (w : World) : Calls Try.prog 23 #[.pointer none] w fun e w' => e = .returned (.bool false) ∧ w' = w := by
  go_enter Try.func23, Try.ntmps23
  go_wp2_with fail
  go_ret
  exact ⟨rfl, rfl⟩
theorem tail_nil (w : World) : Calls Try.prog 24 #[.pointer none] w fun e w' => e = .returned (.int .i64 0) ∧ w' = w := by
  go_enter Try.func24, Try.ntmps24
  go_wp2_with fail
  go_ret
  exact ⟨rfl, rfl⟩
theorem step_nil (S : Nat) (w : World) : Calls Try.prog 20 #[.pointer none, .pointer (some ⟨S, 0, none⟩)] w fun e w' => e = .returned (.bool true) ∧ w' = w := by
  go_enter Try.func20, Try.ntmps20
  go_wp2_with (first | (go_at_call 14; refine (ended_nil _).mono ?_; rintro e w1 ⟨rfl, rfl⟩))
  go_ret
  exact ⟨rfl, rfl⟩
theorem full_of (A : Nat) (o : Wk) (w : World) (h : WAt w A o) : Calls Try.prog 23 #[.pointer (some ⟨A, 0, none⟩)] w fun e w' => e = .returned (.bool o.fl) ∧ w' = w := by
  obtain ⟨c0, c1, c2, c3, c4, c5, c6, c7, c8, c9, c10, c11, c12, c13, cf⟩ := h.cells
  clear h
  go_enter Try.func23, Try.ntmps23
  go_wp2_with fail
  go_ret
  exact ⟨rfl, rfl⟩
theorem tail_of (A : Nat) (o : Wk) (w : World) (h : WAt w A o) : Calls Try.prog 24 #[.pointer (some ⟨A, 0, none⟩)] w fun e w' => e = .returned (.int .i64 o.tl) ∧ w' = w := by
  obtain ⟨c0, c1, c2, c3, c4, c5, c6, c7, c8, c9, c10, c11, c12, c13, cf⟩ := h.cells
  clear h
  go_enter Try.func24, Try.ntmps24
  go_wp2_with fail
  go_ret
  exact ⟨rfl, rfl⟩
/-- What it got: told of a walk that has ended. -/
theorem got_of (A : Nat) (o : Wk) (b : Bool) (x : Int) (k : Bool) (w : World) (h : WAt w A o) (hb : Hid (EndB A o b)) (hx : Hid ((b = true ∧ o.hs = true ∧ k = true ∧ x = o.gt) ∨ ((b = false ∨ o.hs = false) ∧ k = false ∧ x = 0))) :
    Calls Try.prog 22 #[.pointer (some ⟨A, 0, none⟩)] w fun e w' => e = .returned (.tuple #[.int .i64 x, .bool k]) ∧ w' = w := by
  obtain ⟨c0, c1, c2, c3, c4, c5, c6, c7, c8, c9, c10, c11, c12, c13, cf⟩ := h.cells
  have C := Lib.hid (ended_of A o b w h hb)
  clear h hb
  rcases hx.out with ⟨rfl, hh, rfl, rfl⟩ | ⟨rfl | hh, rfl, rfl⟩
  · rw [hh] at c11
    clear hx hh
    go_enter Try.func22, Try.ntmps22
    go_wp2_with (first | (go_at_call 14; refine C.out.mono ?_; rintro e w1 ⟨rfl, rfl⟩))
    go_ret2
    exact ⟨rfl, rfl⟩
  · clear hx
    go_enter Try.func22, Try.ntmps22
    go_wp2_with (first | (go_at_call 14; refine C.out.mono ?_; rintro e w1 ⟨rfl, rfl⟩))
    go_ret2
    exact ⟨rfl, rfl⟩
  · rw [hh] at c11
    clear hx hh
    cases b
    all_goals
      go_enter Try.func22, Try.ntmps22
      go_wp2_with (first | (go_at_call 14; refine C.out.mono ?_; rintro e w1 ⟨rfl, rfl⟩))
      go_ret2
      exact ⟨rfl, rfl⟩
set_option maxRecDepth 20000 in
theorem step_of (S g A : Nat) (xs xs' : List Int) (o o' : Wk) (b : Bool) (w0 w : World) (hC : StepC S g A xs o xs' o') (hb : Hid (EndB A o' b)) (h : WS w0 w S g A xs o) :
    Calls Try.prog 20 #[.pointer (some ⟨A, 0, none⟩), .pointer (some ⟨S, 0, none⟩)] w fun e w' => e = .returned (.bool b) ∧ WS w0 w' S g A xs' o' ∧ Fr g A w w' := by
  obtain ⟨f, hn, eg, hC⟩ := hC
  obtain ⟨c0, c1, c2, c3, c4, c5, c6, c7, c8, c9, c10, c11, c12, c13, cf⟩ := h.a.cells
  rw [hn] at c13
  have C := Lib.hid (hC w0 w h)
  have E0 := Lib.hid (ended_of A o false w h.a (Lib.hid (Or.inr ⟨f, hn, rfl⟩)))
  unfold fnV at c13
  clear hC h hn c0 c1 c2 c3 c4 c5 c6 c7 c8 c9 c10 c11 c12
  go_enter Try.func20, Try.ntmps20
  go_wp2_with fail
  refine E0.out.mono ?_
  rintro e w1 ⟨rfl, rfl⟩
  go_wp2_with fail
  refine C.out.mono ?_
  rintro e w2 ⟨rfl, hS, hF⟩
  have E1 := Lib.hid (ended_of A o' b w2 hS.a hb)
  have HS := Lib.hid hS
  have HF := Lib.hid hF
  clear hS hF E0 C hb c13 cf
  go_wp2_with fail
  refine E1.out.mono ?_
  rintro e w3 ⟨rfl, rfl⟩
  go_wp2_with fail
  go_ret
  exact ⟨rfl, HS.out, HF.out⟩
set_option maxRecDepth 20000 in
theorem step_end (S g A : Nat) (xs : List Int) (o : Wk) (w0 w : World) (hn : o.nx = .nilFunc) (h : WS w0 w S g A xs o) :
    Calls Try.prog 20 #[.pointer (some ⟨A, 0, none⟩), .pointer (some ⟨S, 0, none⟩)] w fun e w' => e = .returned (.bool true) ∧ w' = w := by
  have E0 := Lib.hid (ended_of A o true w h.a (Lib.hid (Or.inl ⟨hn, rfl⟩)))
  clear h hn
  go_enter Try.func20, Try.ntmps20
  go_wp2_with (first | (refine E0.out.mono ?_; rintro e w1 ⟨rfl, rfl⟩))
  go_ret
  exact ⟨rfl, rfl⟩
/-- n steps to the end. -/
inductive RunC (S g A : Nat) : Nat → List Int → Wk → List Int → Wk → Prop
  | one {xs xs' : List Int} {o o' : Wk} : StepC S g A xs o xs' o' → o'.nx = .nilFunc → RunC S g A 1 xs o xs' o'
  | more {n : Nat} {xs xs1 xs2 : List Int} {o o1 o2 : Wk} : StepC S g A xs o xs1 o1 → (∃ f, o1.nx = fnV A f) → RunC S g A n xs1 o1 xs2 o2 → RunC S g A (n + 1) xs o xs2 o2
theorem RunC.pos {S g A n : Nat} {xs xs' : List Int} {o o' : Wk} (h : RunC S g A n xs o xs' o') : 1 ≤ n := by cases h <;> omega
theorem run_of (S g A n : Nat) (xs xs' : List Int) (o o' : Wk) (w0 w : World) (hR : RunC S g A n xs o xs' o') (hn : n < 100) (h : WS w0 w S g A xs o) :
    Calls Try.prog 29 #[.pointer (some ⟨A, 0, none⟩), .pointer (some ⟨S, 0, none⟩)] w fun e w' => e = .returned (.int .i64 (n : Int)) ∧ WS w0 w' S g A xs' o' ∧ Fr g A w w' := by
  have H0 := Lib.hid hR
  have H1 := Lib.hid h
  have hp := hR.pos
  clear h hR
  go_enter Try.func29, Try.ntmps29
  go_wp2_with fail
  go_loopw [5] (fun i wr => ∃ (k m : Nat) (ys : List Int) (q : Wk), k + m = n + 1 ∧ 1 ≤ k ∧ 1 ≤ m ∧ i = .int .i64 (k : Int) ∧ Hid (RunC S g A m ys q xs' o') ∧ Hid (WS w0 wr S g A ys q) ∧ Hid (Fr g A w wr)) (fun i _ => 101 - (intOf i).toNat)
  case atStart => exact ⟨1, n, xs, o, by omega, by omega, hp, by simp, H0, H1, Lib.hid (Fr.refl g A w)⟩
  case round =>
    clear H0 H1
    obtain ⟨k, m, ys, q, hkm, hk1, hm1, rfl, HR, HW, HF⟩ := hrel
    cases HR.out with
    | one hC hnil =>
      go_wp2_with fail
      refine (step_of S g A ys xs' q o' true w0 _ hC (Lib.hid (Or.inl ⟨hnil, rfl⟩)) HW.out).mono ?_
      rintro e w1 ⟨rfl, hS, hF⟩
      have HS := Lib.hid hS
      have HF1 := Lib.hid (HF.out.trans hF)
      clear hS hF HR hC hnil
      go_wp2_with fail
      go_ret
      obtain rfl : k = n := by omega
      exact ⟨rfl, HS.out, HF1.out⟩
    | @more m' _ ys1 _ _ q1 _ hC hf hR =>
      have hp1 := hR.pos
      go_wp2_with fail
      refine (step_of S g A ys ys1 q q1 false w0 _ hC (Lib.hid (Or.inr (by obtain ⟨f, hf⟩ := hf; exact ⟨f, hf, rfl⟩))) HW.out).mono ?_
      rintro e w1 ⟨rfl, hS, hF⟩
      have HS := Lib.hid hS
      have HF1 := Lib.hid (HF.out.trans hF)
      have HR1 := Lib.hid hR
      clear hS hF HR hC hf hR
      go_wp2_with fail
      go_roundw
      case rel => exact ⟨k + 1, m', ys1, q1, by omega, by omega, hp1, by go_num, HR1, HS, HF1⟩
      case measure => simp [intOf]; omega
end Go.Proofs.Ytegbifphekhgkaa
