/- The document's walk of layer 19: its steps that have ended. -/
import Derived.Test.YtegbifphekhgkaaRgD
import Derived.Test.YtegbifphekhgkaaCgB
import Derived.Test.YtegbifphekhgkaaCgC
namespace Go.Proofs.Ytegbifphekhgkaa.cg
open Go.ChangeShapes Go.WideShapes Go.ChangeAt Go.RowKit
attribute [local go_sem ↓] Go.wp_at_zero Go.wp_at_succ
set_option linter.unusedVariables false
set_option linter.unusedSimpArgs false
set_option maxRecDepth 20000 in
set_option maxHeartbeats 4000000 in
theorem re3 (pk : Bool) (sr it n st fr : Int) (gt : Bool) (B N : Nat) (ad : Option Addr) (cp : Nat) (xs : List Int) (w : World) (ho : OI w B (.slice ad N cp) xs) :
    Calls Try.prog 38 #[.agg #[.int .i64 1, .int .i64 3, .int .i64 3, .int .i64 3], .agg (⟨pk, sr, it, n, 3, st, fr, gt⟩ : Rw).cs, .slice ad N cp] w (RPost19 B N (.slice ad N cp) w (⟨pk, sr, it, n, 3, st, fr, gt⟩ : Rw) xs) := by
  obtain ⟨W, hW⟩ : ∃ W, ((w.alloc (Obj.cells #[Value.int .i64 1, .int .i64 3, .int .i64 3, .int .i64 3] 61)).alloc (Obj.cells (⟨pk, sr, it, n, 3, st, fr, gt⟩ : Rw).cs 74)).alloc (Obj.cells #[.bool false, .int .i64 0, .int .i64 0, .int .i64 0, .int .i64 0, .int .i64 0, .int .i64 0, .int .i64 0, .bool false] 74) = W := ⟨_, rfl⟩
  obtain ⟨hX, hBW⟩ := BX.new w _ hW
  unfold Rw.cs at hW ⊢
  have HX := Lib.hid hX
  have HBW := Lib.hid hBW
  have HO := Lib.hid ho
  obtain ⟨p0, p1, p2, p3, c0, c1, c2, c3, c4, c5, c6, c7, c8⟩ := hX.rd
  obtain ⟨z0, z1, z2, z3, z4, z5, z6, z7, z8⟩ := hX.zs
  have y0 := hX.fz 0
  have y1 := hX.fz 1
  have y2 := hX.fz 2
  have y3 := hX.fz 3
  have y4 := hX.fz 4
  have y5 := hX.fz 5
  have y6 := hX.fz 6
  have y7 := hX.fz 7
  have y8 := hX.fz 8
  clear hX hBW ho
  go_enter Try.func38, Try.ntmps38
  go_wp2_with fail
  obtain ⟨g1, g2, g3⟩ := put9_at (.bool pk) (.int .i64 2) (.int .i64 sr) (.int .i64 it) (.int .i64 n) (.int .i64 3) (.int .i64 st) (.int .i64 fr) (.bool gt) HX.out.z
  have hbF := HBW.out.trans (g3 w.heap.size (by omega))
  obtain ⟨wF, hwF⟩ : ∃ wF, put9 W (w.heap.size + 1 + 1) (.bool pk) (.int .i64 2) (.int .i64 sr) (.int .i64 it) (.int .i64 n) (.int .i64 3) (.int .i64 st) (.int .i64 fr) (.bool gt) = wF := ⟨_, rfl⟩
  rw [hwF] at g1 hbF
  unfold put9 at hwF
  rw [hwF]
  clear p0 p1 p2 p3 c0 c1 c2 c3 c4 c5 c6 c7 c8 z0 z1 z2 z3 z4 z5 z6 z7 z8 g2 g3
  have d0 := ro.cel g1 0
  have d1 := ro.cel g1 1
  have d2 := ro.cel g1 2
  have d3 := ro.cel g1 3
  have d4 := ro.cel g1 4
  have d5 := ro.cel g1 5
  have d6 := ro.cel g1 6
  have d7 := ro.cel g1 7
  have d8 := ro.cel g1 8
  refine bodyPost_ret (v := .tuple #[.agg (⟨pk, sr, it, n, 3, st, fr, gt⟩ : Rw).cs, .slice ad N cp]) ?_ rfl ⟨_, cp, rfl, OI.below HO.out hbF, hbF, fun q hq => .inr hq⟩
  simp [results, Try.results38, go_sem, Rw.cs, d0, d1, d2, d3, d4, d5, d6, d7, d8]
set_option maxHeartbeats 2000000 in
set_option maxRecDepth 20000 in
theorem right_end (S g B : Nat) (xs : List Int) (id sr it c st fr : Int) (gt : Bool) (w0 w : World) (h : J w0 w S g xs) (ho : RightAt w B id sr it c 3 st fr gt) :
    Calls Try.prog 39 #[.pointer (some ⟨B, 0, none⟩), .pointer (some ⟨S, 0, none⟩)] w fun e w' => e = .returned (.bool true) ∧ J w0 w' S g xs ∧ RightAt w' B id sr it c 3 st fr gt ∧ Keep2 g B w w' := by
  obtain ⟨c0, c1, c2, c3, c4, c5, c6, c7, c8, c9, c10, c11, cf⟩ := ho.cells
  have H := Lib.hid h
  have HO := Lib.hid ho
  clear ho cf h
  go_enter Try.func39, Try.ntmps39
  go_wp2_with fail
  go_ret
  exact ⟨rfl, H.out, HO.out, ⟨Nat.le_refl _, fun _ _ _ _ => rfl⟩⟩
set_option maxHeartbeats 2000000 in
set_option maxRecDepth 20000 in
theorem park_end (S g B : Nat) (xs : List Int) (id sr it st : Int) (bk : Bool) (w0 w : World) (h : J w0 w S g xs) (ho : ParkAt w B id sr it st 3 bk) :
    Calls Try.prog 41 #[.pointer (some ⟨B, 0, none⟩), .pointer (some ⟨S, 0, none⟩)] w fun e w' => e = .returned (.bool true) ∧ J w0 w' S g xs ∧ ParkAt w' B id sr it st 3 bk ∧ Keep2 g B w w' := by
  obtain ⟨c0, c1, c2, c3, c4, c5, c6, c7, c8, c9, cf⟩ := ho.cells
  have H := Lib.hid h
  have HO := Lib.hid ho
  clear ho cf h
  go_enter Try.func41, Try.ntmps41
  go_wp2_with fail
  go_ret
  exact ⟨rfl, H.out, HO.out, ⟨Nat.le_refl _, fun _ _ _ _ => rfl⟩⟩
end Go.Proofs.Ytegbifphekhgkaa.cg
