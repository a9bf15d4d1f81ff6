/- The same is in two deques just if the same is told: the law ModelEqual answers true. No condition. -/
import Derived.Test.YtajmmglfdinahaaMoD
import Derived.Test.YtajmmglfdinahaaGrids
import Derived.Deep.RegionHeld3
import Derived.Deep.DrawnRows
namespace Go.Proofs.Ytajmmglfdinahaa.modelEqual
open Go.ChangeShapes Go.WideShapes Go.ChangeAt Go.RowKit Go.Proofs.Ytajmmglfdinahaa.mo
set_option linter.unusedVariables false
set_option linter.unusedSimpArgs false
theorem kf_below {F d n : Nat} {M : Nat → Nat} {R : Nat → Value} {Y : Nat → List Int} {w w' w'' : World} {i B : Nat} {xs' : List Int} {R' : Nat → Value} {Y' : Nat → List Int} (h : MF F d n M R Y w) (hb : Below w.heap.size w w') (hB : B ≤ w.heap.size) (hp : FP F d n M R Y w' i B xs' R' Y' w'') : FP F d n M R Y w i B xs' R' Y' w'' :=
  ⟨hp.m, hp.y, hp.o, hp.r, (h.below hb).2.trans hp.k, (hb.mono hB).trans hp.b⟩
theorem equal_any (B M B' M' : Nat) (m m' : Int) (v v' : Value) (xs ys : List Int) (b : Bool) (w : World) (h : MS B M w m v xs) (h' : MS B' M' w m' v' ys) (hx : xs.length ≤ 2000) (hb : (xs == ys) = b) : Calls Try.prog 32 #[.pointer (some ⟨M, 0, none⟩), .pointer (some ⟨M', 0, none⟩)] w fun e w' => e = .returned (.bool b) ∧ Below w.heap.size w w' := by
  subst hb
  by_cases hl : xs.length = ys.length
  · exact equal_of B M B' M' m m' v v' xs ys w h h' hl hx
  · have e : (xs == ys) = false := beq_eq_false_iff_ne.2 (fun e => hl (by rw [e]))
    rw [e]
    exact equal_len B M B' M' m m' v v' xs ys w h h' hl
theorem two0 (w : World) (o o' : Obj) : ((w.alloc o).alloc o').heap[w.heap.size]? = some o := by
  show ((w.heap.push _).push _)[w.heap.size]? = _
  simp [Array.getElem?_push]
theorem two1 (w : World) (o o' : Obj) : ((w.alloc o).alloc o').heap[w.heap.size + 1]? = some o' := by
  show ((w.heap.push _).push _)[w.heap.size + 1]? = _
  rw [show w.heap.size + 1 = (w.heap.push o).size by simp, Array.getElem?_push_size]
theorem last_of (l : List Int) : l = [] ∨ ∃ xs x, l = xs ++ [x] := by
  rcases List.eq_nil_or_concat l with h | ⟨xs, x, h⟩
  · exact .inl h
  · exact .inr ⟨xs, x, by simpa using h⟩
set_option maxRecDepth 20000 in
set_option maxHeartbeats 4000000 in
theorem core (a0 : Option Addr) (len0 cap0 : Nat) (z0 : Nat → Nat → Int) (a1 : Option Addr) (len1 cap1 : Nat) (z1 : Nat → Nat → Int) (w : World) (h0 : len0 ≤ 100) (h1 : len1 ≤ 100)
    (hz0 : ∀ k, k < len0 → ∃ b off, a0 = some ⟨b, off, none⟩ ∧ b < w.heap.size ∧ w.cell? ⟨b, off + k * 2, none⟩ = some (.int .i64 (z0 k 0)) ∧ w.cell? ⟨b, off + k * 2 + 1, none⟩ = some (.int .i64 (z0 k 1)))
    (hz1 : ∀ k, k < len1 → ∃ b off, a1 = some ⟨b, off, none⟩ ∧ b < w.heap.size ∧ w.cell? ⟨b, off + k * 2, none⟩ = some (.int .i64 (z1 k 0)) ∧ w.cell? ⟨b, off + k * 2 + 1, none⟩ = some (.int .i64 (z1 k 1))) :
    Calls Try.prog 5 #[.slice a0 len0 cap0, .slice a1 len1 cap1] w fun e w' => e = .returned (.bool true) ∧ Below w.heap.size w w' := by
  have hd5 : decide (100 < len0) = false := by simp; omega
  have hd6 : ¬ (100 : Int) < (len0 : Int) := by omega
  have hd7 : decide (100 < len1) = false := by simp; omega
  have hd8 : ¬ (100 : Int) < (len1 : Int) := by omega
  have HZ0 := Lib.hid hz0
  have HZ1 := Lib.hid hz1
  clear hz0 hz1
  go_enter Try.func5, Try.ntmps5
  go_wp2_with fail
  refine (works14 w).mono ?_
  rintro e w1 ⟨rfl, hb1⟩
  have hs1 := hb1.size
  have HB1 := Lib.hid hb1
  clear hb1
  go_wp2_with fail
  refine (new_of 1000 w.heap.size w1 hs1).mono ?_
  rintro e w2 ⟨rfl, hm1, hb2⟩
  have HM1 := Lib.hid hm1
  have HB2 := Lib.hid hb2
  have hs2 : w1.heap.size < w2.heap.size := hm1.lt
  clear hm1 hb2
  go_wp2_with fail
  refine (new_of 1000 w.heap.size w2 (by omega)).mono ?_
  rintro e w3 ⟨rfl, hm2, hb3⟩
  have HM2 := Lib.hid hm2
  have HB3 := Lib.hid hb3
  have hs3 : w2.heap.size < w3.heap.size := hm2.lt
  clear hm2 hb3
  go_wp2_with fail
  have hLD : Below w3.heap.size w3 ((w3.alloc (Obj.cells #[Value.slice a0 len0 cap0, Value.slice a1 len1 cap1] 49)).alloc (Obj.cells #[Value.pointer (some { block := w1.heap.size, off := 0 }), Value.pointer (some { block := w2.heap.size, off := 0 })] 50)) := ((Below.refl _ _).alloc (Nat.le_refl _) _).alloc (by simp) _
  obtain ⟨w4, hw4⟩ : ∃ w4, ((w3.alloc (Obj.cells #[Value.slice a0 len0 cap0, Value.slice a1 len1 cap1] 49)).alloc (Obj.cells #[Value.pointer (some { block := w1.heap.size, off := 0 }), Value.pointer (some { block := w2.heap.size, off := 0 })] 50)) = w4 := ⟨_, rfl⟩
  have hs4 : w4.heap.size = w3.heap.size + 2 := by rw [← hw4]; simp
  have l0 : w4.cell? ⟨w3.heap.size, 0, none⟩ = some (.slice a0 len0 cap0) := by rw [← hw4]; simp [World.cell?, two0]
  have l1 : w4.cell? ⟨w3.heap.size, 1, none⟩ = some (.slice a1 len1 cap1) := by rw [← hw4]; simp [World.cell?, two0]
  have p0 : w4.cell? ⟨w3.heap.size + 1, 0, none⟩ = some (.pointer (some ⟨w1.heap.size, 0, none⟩)) := by rw [← hw4]; unfold World.cell?; simp only [two1]; rfl
  have p1 : w4.cell? ⟨w3.heap.size + 1, 1, none⟩ = some (.pointer (some ⟨w2.heap.size, 0, none⟩)) := by rw [← hw4]; unfold World.cell?; simp only [two1]; rfl
  rw [hw4] at hLD ⊢
  clear hw4
  have HF : Hid (MF w4.heap.size 2 2 (fun i => if i = 0 then w1.heap.size else w2.heap.size) (fun _ => .slice none 0 0) (fun _ => []) w4) := by
    have e1 := (((HM1.out.below HB3.out).below hLD).obj)
    have e2 := ((HM2.out.below hLD).obj)
    refine Lib.hid ⟨?_, ?_, fun i hi => World.ownsRow_nil _ _ _ _, fun i j _ _ _ k e => by simp [Value.ownBlock] at e, ?_, Nat.le_refl _, by decide⟩
    · intro i hi
      match i, hi with
      | 0, _ => exact e1
      | 1, _ => exact e2
    · intro i hi
      match i, hi with
      | 0, _ => show w1.heap.size < _; omega
      | 1, _ => show w2.heap.size < _; omega
    · intro i j hi hj hij
      match i, hi, j, hj with
      | 0, _, 0, _ => exact absurd rfl hij
      | 0, _, 1, _ => show w1.heap.size ≠ w2.heap.size; omega
      | 1, _, 0, _ => show w2.heap.size ≠ w1.heap.size; omega
      | 1, _, 1, _ => exact absurd rfl hij
  obtain ⟨M, m0, m1, hMF⟩ : ∃ M : Nat → Nat, M 0 = w1.heap.size ∧ M 1 = w2.heap.size ∧ MF w4.heap.size 2 2 M (fun _ => .slice none 0 0) (fun _ => []) w4 := ⟨_, rfl, rfl, HF.out⟩
  have HB4 : Hid (Below w.heap.size w w4) := Lib.hid (((HB1.out.trans (HB2.out.mono hs1)).trans (HB3.out.mono (by omega))).trans (hLD.mono (by omega)))
  obtain ⟨LB, hLB⟩ : ∃ LB, w3.heap.size = LB := ⟨_, rfl⟩
  obtain ⟨F, hF⟩ : ∃ F, w4.heap.size = F := ⟨_, rfl⟩
  rw [← m0] at p0
  rw [← m1] at p1
  rw [← m0, ← m1]
  have d0 : w.heap.size ≤ M 0 := by omega
  have d1 : w.heap.size ≤ M 1 := by omega
  rw [hLB] at l0 l1 p0 p1 ⊢
  rw [hF] at hMF
  have x1 : LB < F := by omega
  have x2 : LB + 1 < F := by omega
  have bF : w.heap.size ≤ F := by omega
  have n0 : ∀ i, i < 2 → LB ≠ M i := fun i hi => by match i, hi with | 0, _ => omega | 1, _ => omega
  have n1 : ∀ i, i < 2 → LB + 1 ≠ M i := fun i hi => by match i, hi with | 0, _ => omega | 1, _ => omega
  have nb : ∀ b, b < w.heap.size → ∀ i, i < 2 → b ≠ M i := fun b hb i hi => by match i, hi with | 0, _ => omega | 1, _ => omega
  have HMF := Lib.hid hMF
  clear HF hMF hLD HM1 HM2 HB1 HB2 HB3 m0 m1 hs1 hs2 hs3 hs4 hF hLB
  have HL : Hid (∀ w', KF F 2 M w4 w' → w'.cell? ⟨LB, 0, none⟩ = some (.slice a0 len0 cap0) ∧ w'.cell? ⟨LB, 1, none⟩ = some (.slice a1 len1 cap1) ∧ w'.cell? ⟨LB + 1, 0, none⟩ = some (.pointer (some ⟨M 0, 0, none⟩)) ∧ w'.cell? ⟨LB + 1, 1, none⟩ = some (.pointer (some ⟨M 1, 0, none⟩))) := Lib.hid fun w' hk => ⟨(cell_heap (hk.2 LB x1 n0)).trans l0, (cell_heap (hk.2 LB x1 n0)).trans l1, (cell_heap (hk.2 (LB + 1) x2 n1)).trans p0, (cell_heap (hk.2 (LB + 1) x2 n1)).trans p1⟩
  have HNB := Lib.hid nb
  clear l0 l1 p0 p1 n0 n1 nb
  go_loopw [9] (fun i wr => ∃ (R : Nat → Value) (Y : Nat → List Int), (i = .int .i64 0 ∧ Y 0 = [] ∧ Y 1 = [] ∨ i = .int .i64 1 ∧ (Y 0).length ≤ 100 ∧ Y 1 = [] ∨ i = .int .i64 2 ∧ (Y 0).length ≤ 100 ∧ (Y 1).length ≤ 100) ∧ Hid (MF F 2 2 M R Y wr) ∧ Hid (Below w.heap.size w wr) ∧ Hid (KF F 2 M w4 wr)) (fun i _ => 2 - (intOf i).toNat)
  case atStart => exact ⟨_, _, .inl ⟨rfl, rfl, rfl⟩, HMF, HB4, Lib.hid KF.refl⟩
  case round =>
    clear HMF HB4
    obtain ⟨R, Y, hq, HM, HB, HK⟩ := hrel
    rcases hq with ⟨rfl, hy0, hy1⟩ | ⟨rfl, hy0, hy1⟩ | ⟨rfl, hy0, hy1⟩
    · -- list 0
      go_wp2_with fail
      go_loopw [10] (fun i wr => ∃ (k : Nat) (R : Nat → Value) (Y : Nat → List Int), k ≤ len0 ∧ i = .int .i64 (k : Int) ∧ Hid (MF F 2 2 M R Y wr) ∧ Hid (Below w.heap.size w wr) ∧ Hid (KF F 2 M w4 wr) ∧ (Y 0).length ≤ k ∧ Y 1 = []) (fun i _ => len0 - (intOf i).toNat)
      case atStart => exact ⟨0, R, Y, by omega, rfl, HM, HB, HK, by rw [hy0]; simp, hy1⟩
      case round =>
        clear HM HB HK hy0 hy1
        obtain ⟨k, R, Y, hk, rfl, HM, HB, HK, hy0, hy1⟩ := hrel
        obtain ⟨c0, c1, c2, c3⟩ := HL.out _ HK.out
        have hLl : LB < wr.heap.size := World.block_lt_of_cell? wr _ c0
        by_cases hlt : k < len0
        · obtain ⟨b, off, rfl, hbl, k0, k1⟩ := HZ0.out k hlt
          replace k0 := (HB.out.cell (p := ⟨b, off + k * 2, none⟩) hbl).trans k0
          replace k1 := (HB.out.cell (p := ⟨b, off + k * 2 + 1, none⟩) hbl).trans k1
          have hbl2 : b < wr.heap.size := Nat.lt_of_lt_of_le hbl HB.out.size
          have hbF : b < F := Nat.lt_of_lt_of_le hbl bF
          generalize z0 k 0 = y at *
          generalize z0 k 1 = x at *
          by_cases hy2 : y = 2
          · subst hy2
            clear k1
            rcases last_of (Y 0) with hn | ⟨xs, u, hn⟩
            · go_wp2_with fail
              refine (mf_pop0 HM 0 (by decide) hn).mono ?_
              rintro e w5 ⟨rfl, rfl⟩
              go_wp2_with fail
              go_roundw
              case rel => exact ⟨k + 1, R, Y, by omega, by go_num, HM, HB, HK, by omega, hy1⟩
              case measure => simp [intOf]; omega
            · have hxs : xs.length < 1000 := by rw [hn] at hy0; simp at hy0; omega
              have hxk : xs.length ≤ k + 1 := by rw [hn] at hy0; simp at hy0; omega
              go_wp2_with fail
              refine (mf_pop HM 0 w.heap.size (by decide) d0 xs u hn hxs).mono ?_
              rintro e w5 ⟨rfl, R5, Y5, H5⟩
              obtain ⟨e1, e2, e3, e4⟩ := HL.out _ (HK.out.trans H5.out.k)
              clear c0 c1 c2 c3
              go_wp2_with fail
              go_roundw
              case rel => exact ⟨k + 1, R5, Y5, by omega, by go_num, Lib.hid H5.out.m, Lib.hid (HB.out.trans H5.out.b), Lib.hid (HK.out.trans H5.out.k), by rw [H5.out.y]; exact hxk, by rw [H5.out.o 1 (by decide)]; exact hy1⟩
              case measure => simp [intOf]; omega
          · by_cases hy3 : y = 3
            · subst hy3
              clear k1
              rcases hn : Y 0 with _ | ⟨u, xs⟩
              · go_wp2_with fail
                refine (mf_steal0 HM 0 (by decide) hn).mono ?_
                rintro e w5 ⟨rfl, rfl⟩
                go_wp2_with fail
                go_roundw
                case rel => exact ⟨k + 1, R, Y, by omega, by go_num, HM, HB, HK, by omega, hy1⟩
                case measure => simp [intOf]; omega
              · have hxs : xs.length < 1000 := by rw [hn] at hy0; simp at hy0; omega
                have hxk : xs.length ≤ k + 1 := by rw [hn] at hy0; simp at hy0; omega
                go_wp2_with fail
                refine (mf_steal HM 0 w.heap.size (by decide) d0 xs u hn hxs).mono ?_
                rintro e w5 ⟨rfl, R5, Y5, H5⟩
                obtain ⟨e1, e2, e3, e4⟩ := HL.out _ (HK.out.trans H5.out.k)
                clear c0 c1 c2 c3
                go_wp2_with fail
                go_roundw
                case rel => exact ⟨k + 1, R5, Y5, by omega, by go_num, Lib.hid H5.out.m, Lib.hid (HB.out.trans H5.out.b), Lib.hid (HK.out.trans H5.out.k), by rw [H5.out.y]; exact hxk, by rw [H5.out.o 1 (by decide)]; exact hy1⟩
                case measure => simp [intOf]; omega
            · have C := Lib.hid (fun w' (hb : Below wr.heap.size wr w') => (mf_push (Lib.hid (HM.out.below hb).1) 0 w.heap.size (by decide) d0 x (by omega)).mono fun e w'' (hh : e = .returned (.bool true) ∧ ∃ R' Y', Hid (FP F 2 2 M R Y w' 0 w.heap.size (Y 0 ++ [x]) R' Y' w'')) => (⟨hh.1, hh.2.choose, hh.2.choose_spec.choose, Lib.hid (kf_below HM.out hb HB.out.size hh.2.choose_spec.choose_spec.out)⟩ : e = .returned (.bool true) ∧ ∃ R' Y', Hid (FP F 2 2 M R Y wr 0 w.heap.size (Y 0 ++ [x]) R' Y' w'')))
              go_wp2_with fail
              have HS : Hid (∀ w', KF F 2 M wr w' → KF F 2 M wr w' ∧ w'.cell? ⟨LB, 0, none⟩ = some (.slice (some ⟨b, off, none⟩) len0 cap0) ∧ w'.cell? ⟨LB + 1, 0, none⟩ = some (.pointer (some ⟨M 0, 0, none⟩)) ∧ w'.cell? ⟨b, off + k * 2 + 1, none⟩ = some (.int .i64 x)) := Lib.hid fun w' hk => by
                obtain ⟨e1, e2, e3, e4⟩ := HL.out _ (HK.out.trans hk)
                exact ⟨hk, e1, e3, (cell_heap (hk.2 b hbF (HNB.out b hbl))).trans k1⟩
              have HSB := Lib.hid (fun w' hb => HS.out w' (HM.out.below hb).2)
              clear c0 c1 c2 c3 k0 k1
              go_region_held3 (fun w' => KF F 2 M wr w' ∧ w'.cell? ⟨LB, 0, none⟩ = some (.slice (some ⟨b, off, none⟩) len0 cap0) ∧ w'.cell? ⟨LB + 1, 0, none⟩ = some (.pointer (some ⟨M 0, 0, none⟩)) ∧ w'.cell? ⟨b, off + k * 2 + 1, none⟩ = some (.int .i64 x))
                (first | (with_reducible assumption) | exact HS.out _ KF.refl | exact HS.out _ hb5 | (refine HSB.out _ ?_; go_grown; done))
                (first | (go_at_call 29; refine (C.out _ (by go_grown)).mono ?_; rintro e w5 ⟨rfl, R5, Y5, H5⟩; have hb5 : KF F 2 M wr w5 := H5.out.k))
              all_goals
                have H5Y : (Y5 0).length ≤ k + 1 := by rw [H5.out.y]; simp; omega
                have H5O : Y5 1 = Y 1 := H5.out.o 1 (by decide)
                have HM5 := Lib.hid H5.out.m
                have HB5 := Lib.hid (HB.out.trans H5.out.b)
                have HK5 := Lib.hid (HK.out.trans H5.out.k)
                clear hb5 H5 HS HSB C HM HB HK
                try clear hj hk0 hk1
                go_wp2_with fail
                go_roundw
                case rel => exact ⟨k + 1, R5, Y5, by omega, by go_num, HM5, HB5, HK5, H5Y, by rw [H5O]; exact hy1⟩
                case measure => simp [intOf]; omega
        · obtain rfl : k = len0 := by omega
          go_wp2_with fail
          go_roundw
          case rel => exact ⟨R, Y, .inr (.inl ⟨rfl, by omega, hy1⟩), HM, HB, HK⟩
          case measure => simp [intOf]
    · -- list 1
      go_wp2_with fail
      go_loopw [10] (fun i wr => ∃ (k : Nat) (R : Nat → Value) (Y : Nat → List Int), k ≤ len1 ∧ i = .int .i64 (k : Int) ∧ Hid (MF F 2 2 M R Y wr) ∧ Hid (Below w.heap.size w wr) ∧ Hid (KF F 2 M w4 wr) ∧ (Y 1).length ≤ k ∧ (Y 0).length ≤ 100) (fun i _ => len1 - (intOf i).toNat)
      case atStart => exact ⟨0, R, Y, by omega, rfl, HM, HB, HK, by rw [hy1]; simp, hy0⟩
      case round =>
        clear HM HB HK hy0 hy1
        obtain ⟨k, R, Y, hk, rfl, HM, HB, HK, hy1, hy0⟩ := hrel
        obtain ⟨c0, c1, c2, c3⟩ := HL.out _ HK.out
        have hLl : LB < wr.heap.size := World.block_lt_of_cell? wr _ c0
        by_cases hlt : k < len1
        · obtain ⟨b, off, rfl, hbl, k0, k1⟩ := HZ1.out k hlt
          replace k0 := (HB.out.cell (p := ⟨b, off + k * 2, none⟩) hbl).trans k0
          replace k1 := (HB.out.cell (p := ⟨b, off + k * 2 + 1, none⟩) hbl).trans k1
          have hbl2 : b < wr.heap.size := Nat.lt_of_lt_of_le hbl HB.out.size
          have hbF : b < F := Nat.lt_of_lt_of_le hbl bF
          generalize z1 k 0 = y at *
          generalize z1 k 1 = x at *
          by_cases hy2 : y = 2
          · subst hy2
            clear k1
            rcases last_of (Y 1) with hn | ⟨xs, u, hn⟩
            · go_wp2_with fail
              refine (mf_pop0 HM 1 (by decide) hn).mono ?_
              rintro e w5 ⟨rfl, rfl⟩
              go_wp2_with fail
              go_roundw
              case rel => exact ⟨k + 1, R, Y, by omega, by go_num, HM, HB, HK, by omega, hy0⟩
              case measure => simp [intOf]; omega
            · have hxs : xs.length < 1000 := by rw [hn] at hy1; simp at hy1; omega
              have hxk : xs.length ≤ k + 1 := by rw [hn] at hy1; simp at hy1; omega
              go_wp2_with fail
              refine (mf_pop HM 1 w.heap.size (by decide) d1 xs u hn hxs).mono ?_
              rintro e w5 ⟨rfl, R5, Y5, H5⟩
              obtain ⟨e1, e2, e3, e4⟩ := HL.out _ (HK.out.trans H5.out.k)
              clear c0 c1 c2 c3
              go_wp2_with fail
              go_roundw
              case rel => exact ⟨k + 1, R5, Y5, by omega, by go_num, Lib.hid H5.out.m, Lib.hid (HB.out.trans H5.out.b), Lib.hid (HK.out.trans H5.out.k), by rw [H5.out.y]; exact hxk, by rw [H5.out.o 0 (by decide)]; exact hy0⟩
              case measure => simp [intOf]; omega
          · by_cases hy3 : y = 3
            · subst hy3
              clear k1
              rcases hn : Y 1 with _ | ⟨u, xs⟩
              · go_wp2_with fail
                refine (mf_steal0 HM 1 (by decide) hn).mono ?_
                rintro e w5 ⟨rfl, rfl⟩
                go_wp2_with fail
                go_roundw
                case rel => exact ⟨k + 1, R, Y, by omega, by go_num, HM, HB, HK, by omega, hy0⟩
                case measure => simp [intOf]; omega
              · have hxs : xs.length < 1000 := by rw [hn] at hy1; simp at hy1; omega
                have hxk : xs.length ≤ k + 1 := by rw [hn] at hy1; simp at hy1; omega
                go_wp2_with fail
                refine (mf_steal HM 1 w.heap.size (by decide) d1 xs u hn hxs).mono ?_
                rintro e w5 ⟨rfl, R5, Y5, H5⟩
                obtain ⟨e1, e2, e3, e4⟩ := HL.out _ (HK.out.trans H5.out.k)
                clear c0 c1 c2 c3
                go_wp2_with fail
                go_roundw
                case rel => exact ⟨k + 1, R5, Y5, by omega, by go_num, Lib.hid H5.out.m, Lib.hid (HB.out.trans H5.out.b), Lib.hid (HK.out.trans H5.out.k), by rw [H5.out.y]; exact hxk, by rw [H5.out.o 0 (by decide)]; exact hy0⟩
                case measure => simp [intOf]; omega
            · have C := Lib.hid (fun w' (hb : Below wr.heap.size wr w') => (mf_push (Lib.hid (HM.out.below hb).1) 1 w.heap.size (by decide) d1 x (by omega)).mono fun e w'' (hh : e = .returned (.bool true) ∧ ∃ R' Y', Hid (FP F 2 2 M R Y w' 1 w.heap.size (Y 1 ++ [x]) R' Y' w'')) => (⟨hh.1, hh.2.choose, hh.2.choose_spec.choose, Lib.hid (kf_below HM.out hb HB.out.size hh.2.choose_spec.choose_spec.out)⟩ : e = .returned (.bool true) ∧ ∃ R' Y', Hid (FP F 2 2 M R Y wr 1 w.heap.size (Y 1 ++ [x]) R' Y' w'')))
              go_wp2_with fail
              have HS : Hid (∀ w', KF F 2 M wr w' → KF F 2 M wr w' ∧ w'.cell? ⟨LB, 1, none⟩ = some (.slice (some ⟨b, off, none⟩) len1 cap1) ∧ w'.cell? ⟨LB + 1, 1, none⟩ = some (.pointer (some ⟨M 1, 0, none⟩)) ∧ w'.cell? ⟨b, off + k * 2 + 1, none⟩ = some (.int .i64 x)) := Lib.hid fun w' hk => by
                obtain ⟨e1, e2, e3, e4⟩ := HL.out _ (HK.out.trans hk)
                exact ⟨hk, e2, e4, (cell_heap (hk.2 b hbF (HNB.out b hbl))).trans k1⟩
              have HSB := Lib.hid (fun w' hb => HS.out w' (HM.out.below hb).2)
              clear c0 c1 c2 c3 k0 k1
              go_region_held3 (fun w' => KF F 2 M wr w' ∧ w'.cell? ⟨LB, 1, none⟩ = some (.slice (some ⟨b, off, none⟩) len1 cap1) ∧ w'.cell? ⟨LB + 1, 1, none⟩ = some (.pointer (some ⟨M 1, 0, none⟩)) ∧ w'.cell? ⟨b, off + k * 2 + 1, none⟩ = some (.int .i64 x))
                (first | (with_reducible assumption) | exact HS.out _ KF.refl | exact HS.out _ hb5 | (refine HSB.out _ ?_; go_grown; done))
                (first | (go_at_call 29; refine (C.out _ (by go_grown)).mono ?_; rintro e w5 ⟨rfl, R5, Y5, H5⟩; have hb5 : KF F 2 M wr w5 := H5.out.k))
              all_goals
                have H5Y : (Y5 1).length ≤ k + 1 := by rw [H5.out.y]; simp; omega
                have H5O : Y5 0 = Y 0 := H5.out.o 0 (by decide)
                have HM5 := Lib.hid H5.out.m
                have HB5 := Lib.hid (HB.out.trans H5.out.b)
                have HK5 := Lib.hid (HK.out.trans H5.out.k)
                clear hb5 H5 HS HSB C HM HB HK
                try clear hj hk0 hk1
                go_wp2_with fail
                go_roundw
                case rel => exact ⟨k + 1, R5, Y5, by omega, by go_num, HM5, HB5, HK5, H5Y, by rw [H5O]; exact hy0⟩
                case measure => simp [intOf]; omega
        · obtain rfl : k = len1 := by omega
          go_wp2_with fail
          go_roundw
          case rel => exact ⟨R, Y, .inr (.inr ⟨rfl, hy0, by omega⟩), HM, HB, HK⟩
          case measure => simp [intOf]
    · obtain ⟨bq, hbq⟩ : ∃ bq, (Y 0 == Y 1) = bq := ⟨_, rfl⟩
      have hbr : (Y 1 == Y 0) = bq := by
        rw [← hbq]
        by_cases e : Y 0 = Y 1
        · rw [e]
        · rw [beq_eq_false_iff_ne.2 e, beq_eq_false_iff_ne.2 (fun h => e h.symm)]
      have HQ := Lib.hid (And.intro hbq hbr)
      have L0 : (Y 0).length ≤ 2000 := by omega
      have L1 : (Y 1).length ≤ 2000 := by omega
      obtain ⟨n, hn⟩ : ∃ n, (Y 0).length = n := ⟨_, rfl⟩
      have HN := Lib.hid hn
      clear hbq hbr hn hy0 hy1
      obtain ⟨Ba, hBa⟩ : ∃ Ba, Ba = w.heap.size := ⟨_, rfl⟩
      have m0 : ∀ w', Below wr.heap.size wr w' → MS w.heap.size (M 0) w' 1000 (R 0) (Y 0) := fun w' hb => (HM.out.below hb).1.ms (by decide) d0
      have m1 : ∀ w', Below wr.heap.size wr w' → MS w.heap.size (M 1) w' 1000 (R 1) (Y 1) := fun w' hb => (HM.out.below hb).1.ms (by decide) d1
      have HM0 := Lib.hid m0
      have HM1 := Lib.hid m1
      clear m0 m1 hBa
      go_wp2_with fail
      refine (equal_any _ _ _ _ _ _ _ _ _ _ bq wr (HM0.out _ (Below.refl _ _)) (HM1.out _ (Below.refl _ _)) L0 HQ.out.1).mono ?_
      rintro e w5 ⟨rfl, hb5⟩
      have HB5 := Lib.hid hb5
      clear hb5
      go_wp2_with fail
      refine (all_of _ _ _ _ _ w5 (HM0.out _ HB5.out) L0).mono ?_
      rintro e w6 ⟨v6, rfl, hr6, hb6⟩
      have hs6 := hb6.size
      have HB6 := Lib.hid (HB5.out.trans (hb6.mono HB5.out.size))
      have V6 := Lib.hid (view_of_own hr6)
      clear hr6 hb6 hs6 HB5
      go_wp2_with fail
      refine (all_of _ _ _ _ _ w6 (HM1.out _ HB6.out) L1).mono ?_
      rintro e w7 ⟨v7, rfl, hr7, hb7⟩
      have HB7 := Lib.hid (HB6.out.trans (hb7.mono HB6.out.size))
      have V7 := Lib.hid (view_of_own hr7)
      have V67 := Lib.hid (V6.out.below hb7)
      clear hr7 hb7 HB6 V6
      go_wp2_with fail
      refine (ints_any _ _ _ _ w7 V67.out V7.out).mono ?_
      rintro e w8 ⟨rfl, n8, rfl⟩
      rw [HQ.out.1]
      have hb8 : Below w7.heap.size w7 (w7.drewN n8) := below_drewN (Below.refl _ _) n8
      obtain ⟨w8, hw8⟩ : ∃ w8, w7.drewN n8 = w8 := ⟨_, rfl⟩
      rw [hw8] at hb8 ⊢
      have HB8 := Lib.hid (HB7.out.trans (hb8.mono HB7.out.size))
      clear hw8 hb8 HB7 V7 V67
      have hbb : (bq == bq) = true := by simp
      go_wp2_with fail
      refine (equal_any _ _ _ _ _ _ _ _ _ _ bq w8 (HM1.out _ HB8.out) (HM0.out _ HB8.out) L1 HQ.out.2).mono ?_
      rintro e w9 ⟨rfl, hb9⟩
      have HB9 := Lib.hid (HB8.out.trans (hb9.mono HB8.out.size))
      clear hb9 HB8
      go_wp2_with fail
      refine (equal_any _ _ _ _ _ _ _ _ _ _ bq w9 (HM0.out _ HB9.out) (HM1.out _ HB9.out) L0 HQ.out.1).mono ?_
      rintro e wA ⟨rfl, hbA⟩
      have HBA := Lib.hid (HB9.out.trans (hbA.mono HB9.out.size))
      clear hbA HB9
      go_wp2_with fail
      by_cases hn0 : n = 0
      · subst hn0
        refine (equal_nil _ _ _ _ _ true wA (HM0.out _ HBA.out) (Lib.hid (by rw [HN.out]; rfl))).mono ?_
        rintro e wB ⟨rfl, rfl⟩
        go_wp2_with fail
        refine (len_of _ _ _ _ _ 0 wB (HM0.out _ HBA.out) HN).mono ?_
        rintro e wC ⟨rfl, rfl⟩
        go_wp2_with fail
        go_ret
        exact ⟨rfl, HB.out.trans (HBA.out.mono HB.out.size)⟩
      · have hn1 : ¬ (n : Int) = 0 := by omega
        have hn2 : ((n : Int) == 0) = false := by simp; omega
        have hn3 : decide ((n : Int) = 0) = false := by simp; omega
        refine (equal_nil _ _ _ _ _ false wA (HM0.out _ HBA.out) (Lib.hid (by rw [HN.out]; simp; omega))).mono ?_
        rintro e wB ⟨rfl, rfl⟩
        go_wp2_with fail
        refine (len_of _ _ _ _ _ n wB (HM0.out _ HBA.out) HN).mono ?_
        rintro e wC ⟨rfl, rfl⟩
        go_wp2_with fail
        go_ret
        exact ⟨rfl, HB.out.trans (HBA.out.mono HB.out.size)⟩
set_option maxRecDepth 20000 in
theorem walk (a0 : Option Addr) (len0 cap0 : Nat) (z0 : Nat → Nat → Int) (a1 : Option Addr) (len1 cap1 : Nat) (z1 : Nat → Nat → Int) (w : World) (w0 : IsGrid [.i64, .i64] w a0 len0 cap0 z0) (w1 : IsGrid [.i64, .i64] w a1 len1 cap1 z1) :
    Calls Try.prog 5 #[.slice a0 len0 cap0, .slice a1 len1 cap1] w fun e w' => e = .returned (.bool true) ∧ Below w.heap.size w w' := by
  have hz : ∀ (a : Option Addr) (len cap : Nat) (z : Nat → Nat → Int), IsGrid [.i64, .i64] w a len cap z → ∀ k, k < len → ∃ b off, a = some ⟨b, off, none⟩ ∧ b < w.heap.size ∧ w.cell? ⟨b, off + k * 2, none⟩ = some (.int .i64 (z k 0)) ∧ w.cell? ⟨b, off + k * 2 + 1, none⟩ = some (.int .i64 (z k 1)) := by
    intro a len cap z h k hk
    rcases h.split (by decide) with h | ⟨b, off, rfl, hb, hle, hm, hc⟩
    · omega
    · have c0 := hc k (by omega) 0 .i64 rfl
      have c1 := hc k (by omega) 1 .i64 rfl
      exact ⟨b, off, rfl, hb, c0.1, by rw [Nat.add_assoc]; exact c1.1⟩
  by_cases h3 : len0 ≤ 100
  · by_cases h10 : len1 ≤ 100
    · exact core a0 len0 cap0 z0 a1 len1 cap1 z1 w h3 h10 (hz _ _ _ _ w0) (hz _ _ _ _ w1)
    · have hd5 : decide (100 < len1) = true := by simp; omega
      have hd6 : (100 : Int) < (len1 : Int) := by omega
      have hd7 : decide (100 < len0) = false := by simp; omega
      have hd8 : ¬ (100 : Int) < (len0 : Int) := by omega
      clear hz w0 w1
      go_enter Try.func5, Try.ntmps5
      go_wp2_with fail
      refine (works14 w).mono ?_
      rintro e wk ⟨rfl, hbk⟩
      go_wp2_with fail
      go_ret
      exact ⟨rfl, hbk⟩
  · have hd7 : decide (100 < len0) = true := by simp; omega
    have hd8 : (100 : Int) < (len0 : Int) := by omega
    clear hz w0 w1
    go_enter Try.func5, Try.ntmps5
    go_wp2_with fail
    refine (works14 w).mono ?_
    rintro e wk ⟨rfl, hbk⟩
    go_wp2_with fail
    go_ret
    exact ⟨rfl, hbk⟩
end Go.Proofs.Ytajmmglfdinahaa.modelEqual
