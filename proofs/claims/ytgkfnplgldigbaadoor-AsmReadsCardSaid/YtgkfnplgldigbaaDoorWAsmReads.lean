/- Programs in writing, read (layer 6): the walk of the law. -/
import Derived.Test.YtgkfnplgldigbaaDoorAsW
import Derived.Test.YtgkfnplgldigbaaDoorAsF
import Derived.Test.YtgkfnplgldigbaaDoorAsL
namespace Go.Proofs.YtgkfnplgldigbaaDoor.asmReads
open Go.ChangeShapes Go.WideShapes Go.ChangeAt Go.RowKit
open Go.Proofs.YtgkfnplgldigbaaDoor.st Go.Proofs.YtgkfnplgldigbaaDoor.wd Go.Proofs.YtgkfnplgldigbaaDoor.asm
set_option linter.unusedVariables false
set_option linter.unusedSimpArgs false
set_option maxRecDepth 20000 in
set_option maxHeartbeats 1600000 in
theorem walk (a0 : ByteArray) (w : World) (w0 : a0.size ≤ maxLen) (hNM : ins.NM w ∧ wd.NM w) :
    Calls Tryd.prog 4 #[.string a0] w fun e w' => e = .returned (.bool true) ∧ Below w.heap.size w w' := by
  obtain ⟨s, hs⟩ : ∃ s : List UInt8, a0 = ⟨s.toArray⟩ := ⟨a0.data.toList, by simp⟩
  subst hs
  have hfs := str_size s
  rw [hfs] at w0
  unfold maxLen at w0
  obtain ⟨hN, hM⟩ := hNM
  have CW := Lib.hid (works06 w hN hM)
  have HN := Lib.hid hN
  have HM := Lib.hid hM
  clear hN hM
  by_cases hbig : 65000 < s.length
  · have hbi : (65000 : Int) < s.length := by omega
    go_enter Tryd.func4, Tryd.ntmps4
    go_wp2_with fail
    refine CW.out.mono ?_
    rintro e w1 ⟨rfl, hb1⟩
    go_wp2_with fail
    go_ret
    exact ⟨rfl, hb1⟩
  · have hbi : ¬ (65000 : Int) < s.length := by omega
    have C1 := Lib.hid (fun w hN hM => read_v w s hN hM (by omega))
    have C2 := Lib.hid (fun w => rread_v w s (by omega))
    obtain ⟨⟨⟨m, fs⟩, ec⟩, hp⟩ : ∃ r, readV s = r := ⟨_, rfl⟩
    rw [hp] at C1 C2
    have hee : (ec == ec) = true := by simp
    clear hp
    go_enter Tryd.func4, Tryd.ntmps4
    go_wp2_with fail
    refine CW.out.mono ?_
    rintro e w1 ⟨rfl, hb1⟩
    have HB1 := Lib.hid hb1
    clear hb1 CW
    go_wp2_with fail
    refine (C1.out _ (HN.out.below HB1.out) (HM.out.below HB1.out)).mono ?_
    rintro e w2 ⟨x, rfl, ⟨v, rfl, hpm⟩, hb2⟩
    dsimp only at hpm ⊢
    obtain ⟨va, vc, rfl, _⟩ := hpm.form
    obtain ⟨W2, hW2⟩ : ∃ W2, w2.alloc (.cells #[.int .i64 m, .slice va fs.length vc] 32) = W2 := ⟨_, rfl⟩
    have k2 : W2.heap[w2.heap.size]? = some (.cells #[.int .i64 m, .slice va fs.length vc] 32 (0, 0)) := by rw [← hW2]; exact heap_new w2 _ _
    have b2 : Below w2.heap.size w2 W2 := by rw [← hW2]; exact (Below.refl _ _).alloc (Nat.le_refl _) _
    have HB2 := Lib.hid (tr3 HB1.out (tr3 hb2 b2))
    have HP2 := Lib.hid (hpm.below b2)
    have HK2 := Lib.hid k2
    have HW2 := Lib.hid hW2
    clear hb2 k2 b2 hW2 hpm C1 HB1
    go_wp2_with fail
    rw [HW2.out]
    refine (C2.out _).mono ?_
    rintro e w3 ⟨x, rfl, ⟨v, rfl, hpm⟩, hb3⟩
    dsimp only at hpm ⊢
    obtain ⟨ua, uc, rfl, _⟩ := hpm.form
    obtain ⟨W3, hW3⟩ : ∃ W3, w3.alloc (.cells #[.int .i64 m, .slice ua fs.length uc] 32) = W3 := ⟨_, rfl⟩
    have k3 : W3.heap[w3.heap.size]? = some (.cells #[.int .i64 m, .slice ua fs.length uc] 32 (0, 0)) := by rw [← hW3]; exact heap_new w3 _ _
    have b3 : Below w3.heap.size w3 W3 := by rw [← hW3]; exact (Below.refl _ _).alloc (Nat.le_refl _) _
    have HB3 := Lib.hid (tr3 HB2.out (tr3 hb3 b3))
    have hk2 := kb HK2.out (tr3 hb3 b3)
    have C3 := pr.same_v m va ua fs.length fs.length vc uc fs W3 (HP2.out.below (tr3 hb3 b3)) (hpm.below b3)
    have x0 : W3.cell? ⟨w2.heap.size, 0, none⟩ = some (.int .i64 m) := cel hk2 0
    have x1 : W3.cell? ⟨w2.heap.size, 1, none⟩ = some (.slice va fs.length vc) := cel hk2 1
    have y0 : W3.cell? ⟨w3.heap.size, 0, none⟩ = some (.int .i64 m) := cel k3 0
    have y1 : W3.cell? ⟨w3.heap.size, 1, none⟩ = some (.slice ua fs.length uc) := cel k3 1
    have HBW := Lib.hid (fun (w' : World) (hb : Below W3.heap.size W3 w') => tr3 HB3.out hb)
    rw [← hW3] at C3 x0 x1 HBW
    replace C3 := Lib.hid C3
    clear hb3 k3 b3 hW3 hpm C2 HB2 HP2 HK2 HW2 y0 y1 hk2
    go_wp2_with (go_at_call 14; (refine C3.out.mono ?_); rintro e w6 ⟨rfl, hb6⟩)
    go_ret
    exact ⟨rfl, HBW.out _ hb6⟩
end Go.Proofs.YtgkfnplgldigbaaDoor.asmReads
