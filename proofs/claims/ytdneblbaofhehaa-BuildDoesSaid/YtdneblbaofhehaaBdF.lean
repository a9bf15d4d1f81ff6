/- What the builder's calls do: Goto, IfZero, the leaps of none (layer 7). -/
import Derived.Test.YtdneblbaofhehaaBdE
namespace Go.Proofs.Ytdneblbaofhehaa.bd
open Go.ChangeShapes Go.WideShapes Go.ChangeAt Go.RowKit Go.Maps
open Go.Proofs.Ytdneblbaofhehaa.ro
open Go.Proofs.Ytdneblbaofhehaa.pr
attribute [local go_sem ↓] Go.wp_at_zero Go.wp_at_succ
set_option linter.unusedVariables false
set_option linter.unusedSimpArgs false
section
variable {w0 w : World} {ρ : Ro} {Bb : Nat} {mem : Int} {fv : Value} {fs : List Fn} {n : Nat} {x : Fn}
theorem leap_none (h : BS w0 w ρ Bb mem fv []) (s : ByteArray) (p0 p1 p2 p3 : Int) :
    Calls Try.prog 23 #[.pointer (some ⟨Bb, 0, none⟩), .agg #[.int .i64 p0, .int .i64 p1, .int .i64 p2, .int .i64 p3], .string s] w fun e w' => e = .returned (.tuple #[]) ∧ Below w.heap.size w w' := by
  obtain ⟨w1, hw1⟩ : ∃ w1, w.alloc (.cells #[.int .i64 p0, .int .i64 p1, .int .i64 p2, .int .i64 p3] 33) = w1 := ⟨_, rfl⟩
  have hb : Below w.heap.size w w1 := by rw [← hw1]; go_grown
  have HL := Lib.hid (last_none (h.below hb))
  have HB := Lib.hid hb
  clear h hb
  go_enter Try.func23, Try.ntmps23
  go_wp2_with (go_at_call 24; (with_reducible refine HL.out.mono ?_); rintro _ _ ⟨rfl, rfl⟩)

  ((try simp only [Exit.inBlock, Exit.then]); refine bodyPost_ret (results_none rfl _ _ _) rfl ?_)
  exact ⟨rfl, HB.out⟩
theorem leap_nil (s : ByteArray) (p0 p1 p2 p3 : Int) :
    Calls Try.prog 23 #[.pointer none, .agg #[.int .i64 p0, .int .i64 p1, .int .i64 p2, .int .i64 p3], .string s] w fun e w' => e = .returned (.tuple #[]) ∧ Below w.heap.size w w' := by
  obtain ⟨w1, hw1⟩ : ∃ w1, w.alloc (.cells #[.int .i64 p0, .int .i64 p1, .int .i64 p2, .int .i64 p3] 33) = w1 := ⟨_, rfl⟩
  have hb : Below w.heap.size w w1 := by rw [← hw1]; go_grown
  have HL := Lib.hid (last_nil w1)
  have HB := Lib.hid hb
  clear hb
  go_enter Try.func23, Try.ntmps23
  go_wp2_with (go_at_call 24; (with_reducible refine HL.out.mono ?_); rintro _ _ ⟨rfl, rfl⟩)

  ((try simp only [Exit.inBlock, Exit.then]); refine bodyPost_ret (results_none rfl _ _ _) rfl ?_)
  exact ⟨rfl, HB.out⟩
/-- Goto and IfZero are leaps. -/
theorem goto_of {w : World} {b : Value} {s : ByteArray} {Q : World → Prop} (C : Calls Try.prog 23 #[b, .agg #[.int .i64 18, .int .i64 0, .int .i64 0, .int .i64 0], .string s] w fun e w' => e = .returned (.tuple #[]) ∧ Q w') :
    Calls Try.prog 13 #[b, .string s] w fun e w' => e = .returned (.tuple #[]) ∧ Q w' := by
  have HC := Lib.hid C
  clear C
  go_enter Try.func13, Try.ntmps13
  go_wp2_with (go_at_call 23; (with_reducible refine HC.out.mono ?_); rintro _ w' ⟨rfl, hQ⟩)
  go_end0
  exact ⟨rfl, hQ⟩
theorem ifzero_of {w : World} {b : Value} {s : ByteArray} {r : Int} {Q : World → Prop} (C : Calls Try.prog 23 #[b, .agg #[.int .i64 19, .int .i64 r, .int .i64 0, .int .i64 0], .string s] w fun e w' => e = .returned (.tuple #[]) ∧ Q w') :
    Calls Try.prog 14 #[b, .int .i64 r, .string s] w fun e w' => e = .returned (.tuple #[]) ∧ Q w' := by
  have HC := Lib.hid C
  clear C
  go_enter Try.func14, Try.ntmps14
  go_wp2_with (go_at_call 23; (with_reducible refine HC.out.mono ?_); rintro _ w' ⟨rfl, hQ⟩)
  go_end0
  exact ⟨rfl, hQ⟩
end
end Go.Proofs.Ytdneblbaofhehaa.bd
