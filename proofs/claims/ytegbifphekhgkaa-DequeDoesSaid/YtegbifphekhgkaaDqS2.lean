/- The reference's Step and New (layer 13). -/
import Derived.Test.YtegbifphekhgkaaDqU
namespace Go.Proofs.Ytegbifphekhgkaa
open Go.ChangeShapes Go.WideShapes Go.ChangeAt Go.RowKit
attribute [local go_sem ↓] Go.wp_at_zero Go.wp_at_succ
set_option linter.unusedVariables false
set_option linter.unusedSimpArgs false
theorem OI.keep' {w w' : World} {B : Nat} {v : Value} {xs : List Int} (h : OI w B v xs) (hk : ∀ g, v.ownBlock = some g → w'.heap[g]? = w.heap[g]?) : OI w' B v xs := by
  obtain ⟨hl, h1 | ⟨g, cap, cur, rfl, h2, hh, h3⟩⟩ := h
  · exact ⟨hl, .inl h1⟩
  · exact ⟨hl, .inr ⟨g, cap, cur, rfl, h2, (hk g rfl).trans hh, h3⟩⟩
theorem OI.neW {w : World} {B M : Nat} {v : Value} {xs : List Int} {cs : Array Value} (h : OI w B v xs) (hM : w.heap[M]? = some (.cells cs 37 (0, 0))) : ∀ g, v.ownBlock = some g → g ≠ M := by
  intro g hg e
  subst e
  obtain ⟨hl, ⟨rfl, _⟩ | ⟨g', cap, cur, rfl, h2, hh, h3⟩⟩ := h
  · simp [Value.ownBlock] at hg
  · simp only [Value.ownBlock, Option.some.injEq] at hg
    subst hg
    rw [hM] at hh
    simp at hh
set_option maxRecDepth 20000 in
set_option maxHeartbeats 2000000 in
theorem rstep_push (r r' : Rk) (B n : Nat) (ad : Option Addr) (cp : Nat) (xs xs' : List Int) (w : World) (hk : r.kd = 0) (ha : 0 ≤ r.at_) (hC : ∀ W, Below w.heap.size w W → Calls Try.prog 54 #[.agg r.cs, .slice ad n cp] W (RPost B n W r' xs')) :
    Calls Try.prog 21 #[.agg r.cs, .slice ad n cp] w (RPost B n w r' xs') := by
  have hna : ¬ r.at_ < 0 := by omega
  have C : Hid (∀ W, Below w.heap.size w W → Calls Try.prog 54 #[.agg #[.int .i64 0, .int .i64 (r.P : Int), .int .i64 (r.D : Int), .int .i64 r.at_, .int .i64 r.t, .int .i64 r.x, .int .i64 r.tn, .int .i64 r.h, .bool r.got, .bool r.full], .slice ad n cp] W (RPost B n W r' xs')) := Lib.hid fun W hb => by
    have := hC W hb
    unfold Rk.cs at this
    rw [hk] at this
    exact this
  clear hC
  unfold Rk.cs
  rw [hk]
  go_enter Try.func21, Try.ntmps21
  go_wp2_with fail
  obtain ⟨W, hW⟩ : ∃ W, (w.alloc (.cells #[.int .i64 0, .int .i64 (r.P : Int), .int .i64 (r.D : Int), .int .i64 r.at_, .int .i64 r.t, .int .i64 r.x, .int .i64 r.tn, .int .i64 r.h, .bool r.got, .bool r.full] 37)).alloc (.cells #[.int .i64 0, .int .i64 0, .int .i64 0, .int .i64 0, .int .i64 0, .int .i64 0, .int .i64 0, .int .i64 0, .bool false, .bool false] 37) = W := ⟨_, rfl⟩
  obtain ⟨hA, hR, hbW⟩ := two_boxes hW
  rw [hW]
  obtain ⟨M, hM⟩ : ∃ M, w.heap.size + 1 = M := ⟨_, rfl⟩
  rw [hM] at hR
  have HR := Lib.hid hR
  have HBW := Lib.hid hbW
  have HM := Lib.hid hM
  rw [hM]
  clear hW hA hR hbW hM
  refine (C.out W HBW.out).mono ?_
  rintro e w9 ⟨ad9, c9, rfl, ho9, hb9⟩
  obtain ⟨⟨z0, z1, z2, z3, z4, z5, z6, z7, z8, z9⟩, zf, zl⟩ := zbox HR.out hb9
  have y0 := zf 0; have y1 := zf 1; have y2 := zf 2; have y3 := zf 3; have y4 := zf 4; have y5 := zf 5; have y6 := zf 6; have y7 := zf 7; have y8 := zf 8; have y9 := zf 9
  have HO9 := Lib.hid ho9
  have HB9 := Lib.hid hb9
  clear zf ho9 hb9 C
  unfold Rk.cs
  go_wp2_with fail
  have hR9 := zdrew HR.out HB9.out
  obtain ⟨g1, g2, g3⟩ := put10_at (.int .i64 r'.kd) (.int .i64 (r'.P : Int)) (.int .i64 (r'.D : Int)) (.int .i64 r'.at_) (.int .i64 r'.t) (.int .i64 r'.x) (.int .i64 r'.tn) (.int .i64 r'.h) (.bool r'.got) (.bool r'.full) hR9
  have hO := OI.keep' HO9.out (fun g hg => g2 g (OI.neW HO9.out hR9 g hg))
  have hbF := HBW.out.trans ((HB9.out.mono HBW.out.size).trans (g3 w.heap.size (by have := HM.out; omega)))
  obtain ⟨wF, hwF⟩ : ∃ wF, put10 w9 M (.int .i64 r'.kd) (.int .i64 (r'.P : Int)) (.int .i64 (r'.D : Int)) (.int .i64 r'.at_) (.int .i64 r'.t) (.int .i64 r'.x) (.int .i64 r'.tn) (.int .i64 r'.h) (.bool r'.got) (.bool r'.full) = wF := ⟨_, rfl⟩
  rw [hwF] at g1 hO hbF
  unfold put10 at hwF
  rw [hwF]
  obtain ⟨p0, p1, p2, p3, p4, p5, p6, p7, p8, p9⟩ := ten g1
  refine bodyPost_ret (v := .tuple #[.agg r'.cs, .slice ad9 n c9]) ?_ rfl ⟨ad9, c9, rfl, hO, hbF⟩
  simp [results, Try.results21, go_sem, Rk.cs, p0, p1, p2, p3, p4, p5, p6, p7, p8, p9]
set_option maxRecDepth 20000 in
set_option maxHeartbeats 2000000 in
theorem rstep_pop (r r' : Rk) (B n : Nat) (ad : Option Addr) (cp : Nat) (xs xs' : List Int) (w : World) (hk : r.kd = 1) (ha : 0 ≤ r.at_) (hC : ∀ W, Below w.heap.size w W → Calls Try.prog 55 #[.agg r.cs, .slice ad n cp] W (RPost B n W r' xs')) :
    Calls Try.prog 21 #[.agg r.cs, .slice ad n cp] w (RPost B n w r' xs') := by
  have hna : ¬ r.at_ < 0 := by omega
  have C : Hid (∀ W, Below w.heap.size w W → Calls Try.prog 55 #[.agg #[.int .i64 1, .int .i64 (r.P : Int), .int .i64 (r.D : Int), .int .i64 r.at_, .int .i64 r.t, .int .i64 r.x, .int .i64 r.tn, .int .i64 r.h, .bool r.got, .bool r.full], .slice ad n cp] W (RPost B n W r' xs')) := Lib.hid fun W hb => by
    have := hC W hb
    unfold Rk.cs at this
    rw [hk] at this
    exact this
  clear hC
  unfold Rk.cs
  rw [hk]
  go_enter Try.func21, Try.ntmps21
  go_wp2_with fail
  obtain ⟨W, hW⟩ : ∃ W, (w.alloc (.cells #[.int .i64 1, .int .i64 (r.P : Int), .int .i64 (r.D : Int), .int .i64 r.at_, .int .i64 r.t, .int .i64 r.x, .int .i64 r.tn, .int .i64 r.h, .bool r.got, .bool r.full] 37)).alloc (.cells #[.int .i64 0, .int .i64 0, .int .i64 0, .int .i64 0, .int .i64 0, .int .i64 0, .int .i64 0, .int .i64 0, .bool false, .bool false] 37) = W := ⟨_, rfl⟩
  obtain ⟨hA, hR, hbW⟩ := two_boxes hW
  rw [hW]
  obtain ⟨M, hM⟩ : ∃ M, w.heap.size + 1 = M := ⟨_, rfl⟩
  rw [hM] at hR
  have HR := Lib.hid hR
  have HBW := Lib.hid hbW
  have HM := Lib.hid hM
  rw [hM]
  clear hW hA hR hbW hM
  refine (C.out W HBW.out).mono ?_
  rintro e w9 ⟨ad9, c9, rfl, ho9, hb9⟩
  obtain ⟨⟨z0, z1, z2, z3, z4, z5, z6, z7, z8, z9⟩, zf, zl⟩ := zbox HR.out hb9
  have y0 := zf 0; have y1 := zf 1; have y2 := zf 2; have y3 := zf 3; have y4 := zf 4; have y5 := zf 5; have y6 := zf 6; have y7 := zf 7; have y8 := zf 8; have y9 := zf 9
  have HO9 := Lib.hid ho9
  have HB9 := Lib.hid hb9
  clear zf ho9 hb9 C
  unfold Rk.cs
  go_wp2_with fail
  have hR9 := zdrew HR.out HB9.out
  obtain ⟨g1, g2, g3⟩ := put10_at (.int .i64 r'.kd) (.int .i64 (r'.P : Int)) (.int .i64 (r'.D : Int)) (.int .i64 r'.at_) (.int .i64 r'.t) (.int .i64 r'.x) (.int .i64 r'.tn) (.int .i64 r'.h) (.bool r'.got) (.bool r'.full) hR9
  have hO := OI.keep' HO9.out (fun g hg => g2 g (OI.neW HO9.out hR9 g hg))
  have hbF := HBW.out.trans ((HB9.out.mono HBW.out.size).trans (g3 w.heap.size (by have := HM.out; omega)))
  obtain ⟨wF, hwF⟩ : ∃ wF, put10 w9 M (.int .i64 r'.kd) (.int .i64 (r'.P : Int)) (.int .i64 (r'.D : Int)) (.int .i64 r'.at_) (.int .i64 r'.t) (.int .i64 r'.x) (.int .i64 r'.tn) (.int .i64 r'.h) (.bool r'.got) (.bool r'.full) = wF := ⟨_, rfl⟩
  rw [hwF] at g1 hO hbF
  unfold put10 at hwF
  rw [hwF]
  obtain ⟨p0, p1, p2, p3, p4, p5, p6, p7, p8, p9⟩ := ten g1
  refine bodyPost_ret (v := .tuple #[.agg r'.cs, .slice ad9 n c9]) ?_ rfl ⟨ad9, c9, rfl, hO, hbF⟩
  simp [results, Try.results21, go_sem, Rk.cs, p0, p1, p2, p3, p4, p5, p6, p7, p8, p9]
set_option maxRecDepth 20000 in
set_option maxHeartbeats 2000000 in
theorem rstep_steal (r r' : Rk) (B n : Nat) (ad : Option Addr) (cp : Nat) (xs xs' : List Int) (w : World) (hk : r.kd = 2) (ha : 0 ≤ r.at_) (hC : ∀ W, Below w.heap.size w W → Calls Try.prog 56 #[.agg r.cs, .slice ad n cp] W (RPost B n W r' xs')) :
    Calls Try.prog 21 #[.agg r.cs, .slice ad n cp] w (RPost B n w r' xs') := by
  have hna : ¬ r.at_ < 0 := by omega
  have C : Hid (∀ W, Below w.heap.size w W → Calls Try.prog 56 #[.agg #[.int .i64 2, .int .i64 (r.P : Int), .int .i64 (r.D : Int), .int .i64 r.at_, .int .i64 r.t, .int .i64 r.x, .int .i64 r.tn, .int .i64 r.h, .bool r.got, .bool r.full], .slice ad n cp] W (RPost B n W r' xs')) := Lib.hid fun W hb => by
    have := hC W hb
    unfold Rk.cs at this
    rw [hk] at this
    exact this
  clear hC
  unfold Rk.cs
  rw [hk]
  go_enter Try.func21, Try.ntmps21
  go_wp2_with fail
  obtain ⟨W, hW⟩ : ∃ W, (w.alloc (.cells #[.int .i64 2, .int .i64 (r.P : Int), .int .i64 (r.D : Int), .int .i64 r.at_, .int .i64 r.t, .int .i64 r.x, .int .i64 r.tn, .int .i64 r.h, .bool r.got, .bool r.full] 37)).alloc (.cells #[.int .i64 0, .int .i64 0, .int .i64 0, .int .i64 0, .int .i64 0, .int .i64 0, .int .i64 0, .int .i64 0, .bool false, .bool false] 37) = W := ⟨_, rfl⟩
  obtain ⟨hA, hR, hbW⟩ := two_boxes hW
  rw [hW]
  obtain ⟨M, hM⟩ : ∃ M, w.heap.size + 1 = M := ⟨_, rfl⟩
  rw [hM] at hR
  have HR := Lib.hid hR
  have HBW := Lib.hid hbW
  have HM := Lib.hid hM
  rw [hM]
  clear hW hA hR hbW hM
  refine (C.out W HBW.out).mono ?_
  rintro e w9 ⟨ad9, c9, rfl, ho9, hb9⟩
  obtain ⟨⟨z0, z1, z2, z3, z4, z5, z6, z7, z8, z9⟩, zf, zl⟩ := zbox HR.out hb9
  have y0 := zf 0; have y1 := zf 1; have y2 := zf 2; have y3 := zf 3; have y4 := zf 4; have y5 := zf 5; have y6 := zf 6; have y7 := zf 7; have y8 := zf 8; have y9 := zf 9
  have HO9 := Lib.hid ho9
  have HB9 := Lib.hid hb9
  clear zf ho9 hb9 C
  unfold Rk.cs
  go_wp2_with fail
  have hR9 := zdrew HR.out HB9.out
  obtain ⟨g1, g2, g3⟩ := put10_at (.int .i64 r'.kd) (.int .i64 (r'.P : Int)) (.int .i64 (r'.D : Int)) (.int .i64 r'.at_) (.int .i64 r'.t) (.int .i64 r'.x) (.int .i64 r'.tn) (.int .i64 r'.h) (.bool r'.got) (.bool r'.full) hR9
  have hO := OI.keep' HO9.out (fun g hg => g2 g (OI.neW HO9.out hR9 g hg))
  have hbF := HBW.out.trans ((HB9.out.mono HBW.out.size).trans (g3 w.heap.size (by have := HM.out; omega)))
  obtain ⟨wF, hwF⟩ : ∃ wF, put10 w9 M (.int .i64 r'.kd) (.int .i64 (r'.P : Int)) (.int .i64 (r'.D : Int)) (.int .i64 r'.at_) (.int .i64 r'.t) (.int .i64 r'.x) (.int .i64 r'.tn) (.int .i64 r'.h) (.bool r'.got) (.bool r'.full) = wF := ⟨_, rfl⟩
  rw [hwF] at g1 hO hbF
  unfold put10 at hwF
  rw [hwF]
  obtain ⟨p0, p1, p2, p3, p4, p5, p6, p7, p8, p9⟩ := ten g1
  refine bodyPost_ret (v := .tuple #[.agg r'.cs, .slice ad9 n c9]) ?_ rfl ⟨ad9, c9, rfl, hO, hbF⟩
  simp [results, Try.results21, go_sem, Rk.cs, p0, p1, p2, p3, p4, p5, p6, p7, p8, p9]
end Go.Proofs.Ytegbifphekhgkaa
