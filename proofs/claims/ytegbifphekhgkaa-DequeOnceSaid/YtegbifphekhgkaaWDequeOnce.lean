/- Of an owner and three thieves at a deque, in whatever order they step, all that was pushed is got at most once, by either end in order, and each walk ends: the law DequeOnce answers true. No condition. -/
import Derived.Test.YtegbifphekhgkaaDqPH
import Derived.Test.YtegbifphekhgkaaGrids
namespace Go.Proofs.Ytegbifphekhgkaa.dequeOnce
open Go.ChangeShapes Go.WideShapes Go.ChangeAt Go.RowKit
open Go.Proofs.Ytegbifphekhgkaa.dqo
attribute [local go_sem ↓] Go.wp_at_zero Go.wp_at_succ
set_option linter.unusedVariables false
set_option linter.unusedSimpArgs false
/-- Is a number one of a list? -/
def hasB (xs : List Int) (n : Int) : Bool := xs.contains n
theorem has_of (v : Value) (xs : List Int) (n : Int) (w : World) (h : View w v xs) (hl : xs.length ≤ 100000) : Calls Try.prog 28 #[v, .int .i64 n] w fun e w' => e = .returned (.bool (hasB xs n)) ∧ w' = w := by
  obtain ⟨a, cap, rfl, _, _, hc⟩ := h
  have HC := Lib.hid hc
  clear hc
  generalize hL : xs.length = L at *
  have HL := Lib.hid hL
  clear hL
  go_enter Try.func28, Try.ntmps28
  go_wp2_with fail
  go_loopw [5] (fun i wr => ∃ k : Nat, k ≤ L ∧ i = .int .i64 (k : Int) ∧ wr = w ∧ Hid (∀ j, j < k → xs.getD j 0 ≠ n)) (fun i _ => L - (intOf i).toNat)
  case atStart => exact ⟨0, by omega, rfl, rfl, Lib.hid (fun j hj => absurd hj (Nat.not_lt_zero _))⟩
  case round =>
    obtain ⟨k, hk, rfl, rfl, HN⟩ := hrel
    by_cases hlt : k < L
    · obtain ⟨b, off, rfl, hbl, _, hcc⟩ := HC.out (by intro e; rw [e] at HL; have := HL.out; simp at this; omega)
      have ck := hcc k hlt
      obtain ⟨u, hu⟩ : ∃ u, xs.getD k 0 = u := ⟨_, rfl⟩
      rw [hu] at ck
      have HU := Lib.hid hu
      clear hu hcc
      by_cases hun : u = n
      · subst hun
        go_wp2_with fail
        go_ret
        refine ⟨ret_bool ?_, rfl⟩
        symm
        unfold hasB
        rw [List.contains_iff_mem]
        have hkl : k < xs.length := by have := HL.out; omega
        have hg : xs[k] = u := by rw [← HU.out, List.getD_eq_getElem?_getD, List.getElem?_eq_getElem hkl]; rfl
        exact hg ▸ List.getElem_mem hkl
      · have hne : (u == n) = false := beq_eq_false_iff_ne.2 hun
        go_wp2_with fail
        go_roundw
        case rel =>
          refine ⟨k + 1, by omega, by go_num, trivial, Lib.hid (fun j hj => ?_)⟩
          by_cases e : j = k
          · rw [e, HU.out]; exact hun
          · exact HN.out j (by omega)
        case measure => simp [intOf]; omega
    · obtain rfl : k = L := by omega
      go_wp2_with fail
      go_ret
      refine ⟨ret_bool ?_, rfl⟩
      symm
      unfold hasB
      rw [← Bool.not_eq_true, List.contains_iff_mem]
      intro hm
      obtain ⟨j, hj, e⟩ := List.getElem_of_mem hm
      have := HN.out j (by have := HL.out; omega)
      rw [List.getD_eq_getElem?_getD, List.getElem?_eq_getElem hj] at this
      exact this e
set_option maxRecDepth 20000 in
set_option maxHeartbeats 4000000 in
theorem core (x D n len cap : Nat) (a1 : Option Addr) (w : World) (hx : x ≤ 255) (hD : x % 7 + 2 = D) (hn : 2 * (4 + D) + 10 = n) (hlen : len ≤ 300) (hz : Ops w a1 len) :
    Calls Try.prog 4 #[.int .u8 (x : Int), .slice a1 len cap] w fun e w' => e = .returned (.bool true) ∧ Below w.heap.size w w' := by
  have hD2 : 2 ≤ D := by omega
  have hD8 : D ≤ 8 := by omega
  have hDn := Lib.hid hn
  have hnl : n ≤ 34 := by omega
  have hd1 : IntKind.i64.wrap (x : Int) = (x : Int) := by rw [IntKind.wrap_i64]; omega
  have hd2 : (x : Int).tmod 7 = (D : Int) - 2 := by rw [Int.tmod_eq_emod_of_nonneg (by omega)]; omega
  have hd3 : (D : Int) - 2 + 2 = (D : Int) := by omega
  have hd5 : decide (300 < len) = false := by simp; omega
  have hd6 : ¬ (300 : Int) < (len : Int) := by omega
  have HZ := Lib.hid hz
  have HLEN := Lib.hid hlen
  clear hn hx hD hz
  go_enter Try.func4, Try.ntmps4
  go_wp2_with fail
  refine (works13 w).mono ?_
  rintro e wk ⟨rfl, hbk⟩
  go_wp2_with fail
  refine (play_of D n len cap a1 wk hD2 hD8 hDn.out HLEN.out (fun i hi => by
    obtain ⟨b, off, y, z, h1, h2, h3, h4, h5, h6, h7, h8⟩ := HZ.out i hi
    exact ⟨b, off, y, z, h1, by have := hbk.size; omega, (hbk.cell (p := ⟨b, off + i * 3, none⟩) h2).trans h3, h4, h5, (hbk.cell (p := ⟨b, off + i * 3 + 1, none⟩) h2).trans h6, h7, h8⟩)).mono ?_
  rintro e wp ⟨vs, ls, rfl, hC, hbp, hrow⟩
  obtain ⟨s0, p0, e0, f0⟩ := (hrow 0 (by omega)).form
  obtain ⟨s1, p1, e1, f1⟩ := (hrow 1 (by omega)).form
  obtain ⟨s2, p2, e2, f2⟩ := (hrow 2 (by omega)).form
  obtain ⟨s3, p3, e3, f3⟩ := (hrow 3 (by omega)).form
  have HR0 := Lib.hid (e0 ▸ hrow 0 (by omega))
  have HR1 := Lib.hid (e1 ▸ hrow 1 (by omega))
  have HR2 := Lib.hid (e2 ▸ hrow 2 (by omega))
  have HR3 := Lib.hid (e3 ▸ hrow 3 (by omega))
  rw [e0, e1, e2, e3]
  have HC := Lib.hid hC
  have HB := Lib.hid (btr hbk hbp)
  clear hrow hC e0 e1 e2 e3 f0 f1 f2 f3 hbk hbp HZ
  obtain ⟨n0, hn0⟩ : ∃ k, (ls 0).length = k := ⟨_, rfl⟩
  obtain ⟨n1, hn1⟩ : ∃ k, (ls 1).length = k := ⟨_, rfl⟩
  obtain ⟨n2, hn2⟩ : ∃ k, (ls 2).length = k := ⟨_, rfl⟩
  obtain ⟨n3, hn3⟩ : ∃ k, (ls 3).length = k := ⟨_, rfl⟩
  rw [hn0] at HR0 ⊢
  rw [hn1] at HR1 ⊢
  rw [hn2] at HR2 ⊢
  rw [hn3] at HR3 ⊢
  have HN := Lib.hid (show (ls 0).length = n0 ∧ (ls 1).length = n1 ∧ (ls 2).length = n2 ∧ (ls 3).length = n3 from ⟨hn0, hn1, hn2, hn3⟩)
  clear hn0 hn1 hn2 hn3
  go_wp2_with fail
  obtain ⟨B, hB⟩ : ∃ B, wp.heap.size = B := ⟨_, rfl⟩
  obtain ⟨W, hW⟩ : ∃ W, W = wp.alloc (Obj.cells #[Value.slice s0 n0 p0, Value.slice s1 n1 p1, Value.slice s2 n2 p2, Value.slice s3 n3 p3, Value.bool true] 52) := ⟨_, rfl⟩
  have hbW : Below wp.heap.size wp W := by rw [hW]; go_grown
  have hG : W.heap[B]? = some (.cells #[Value.slice s0 n0 p0, Value.slice s1 n1 p1, Value.slice s2 n2 p2, Value.slice s3 n3 p3, Value.bool true] 52 (0, 0)) := by rw [hW, ← hB]; exact heap_alloc_new _ _
  have HG := Lib.hid (show B < W.heap.size ∧ W.cell? ⟨B, 0, none⟩ = some (Value.slice s0 n0 p0) ∧ W.cell? ⟨B, 1, none⟩ = some (Value.slice s1 n1 p1) ∧ W.cell? ⟨B, 2, none⟩ = some (Value.slice s2 n2 p2) ∧ W.cell? ⟨B, 3, none⟩ = some (Value.slice s3 n3 p3) from ⟨lt_of_heap hG, ro.cel hG 0, ro.cel hG 1, ro.cel hG 2, ro.cel hG 3⟩)
  have HV0 := Lib.hid ((view_of_own HR0.out).below hbW)
  have HV1 := Lib.hid ((view_of_own HR1.out).below hbW)
  have HV2 := Lib.hid ((view_of_own HR2.out).below hbW)
  have HV3 := Lib.hid ((view_of_own HR3.out).below hbW)
  have HBW := Lib.hid (btr HB.out hbW)
  rw [← hW, hB]
  clear hW hbW hG HR0 HR1 HR2 HR3 HB hB
  go_loopw [6] (fun i wr => ∃ k : Nat, k ≤ n2 ∧ i = .int .i64 (k : Int) ∧ Hid (Below W.heap.size W wr)) (fun i _ => n2 - (RowKit.intOf i).toNat)
  case atStart => exact ⟨0, by omega, rfl, Lib.hid (Below.refl _ _)⟩
  case round =>
    obtain ⟨k, hk, rfl, HBr⟩ := hrel
    have z0 := (HBr.out.cell (p := ⟨B, 0, none⟩) HG.out.1).trans HG.out.2.1
    have z1 := (HBr.out.cell (p := ⟨B, 1, none⟩) HG.out.1).trans HG.out.2.2.1
    have z2 := (HBr.out.cell (p := ⟨B, 2, none⟩) HG.out.1).trans HG.out.2.2.2.1
    by_cases hlt : k < n2
    · obtain ⟨a', c', hv', hx1, hx2, hc'⟩ := HV2.out.below HBr.out
      obtain ⟨b, off, hs, hbl, hx3, hcc⟩ := hc' (by intro e; have := HN.out.2.2.1; rw [e] at this; simp at this; omega)
      simp only [Value.slice.injEq] at hv'
      obtain ⟨rfl, hx4, rfl⟩ := hv'
      subst hs
      clear hx1 hx2 hx3 hx4 hbl
      have ck := hcc k (by have := HN.out.2.2.1; omega)
      obtain ⟨u, hu⟩ : ∃ u, (ls 2).getD k 0 = u := ⟨_, rfl⟩
      rw [hu] at ck
      have hk2 : k < (ls 2).length := by have := HN.out.2.2.1; omega
      have hmem : u ∈ ls 2 := by
        have hg : (ls 2)[k] = u := by rw [← hu, List.getD_eq_getElem?_getD, List.getElem?_eq_getElem hk2]; rfl
        exact hg ▸ List.getElem_mem hk2
      have q1 : hasB (ls 1) u = false := by
        unfold hasB
        rw [← Bool.not_eq_true, List.contains_iff_mem]
        exact HC.out.2.1 u hmem
      have q0 : hasB (ls 0) u = true := by
        unfold hasB
        rw [List.contains_iff_mem]
        exact HC.out.2.2.1 u hmem
      have C1 : Hid (∀ q, Calls Try.prog 28 #[.slice s1 n1 p1, .int .i64 u] (wr.drewN q) fun e w'' => e = .returned (.bool false) ∧ ∃ m, w'' = wr.drewN m) := Lib.hid (fun q => (has_of _ (ls 1) u _ (HV1.out.below (below_drewN HBr.out q)) (by have := HC.out.2.2.2.2 1 (by omega); omega)).mono fun e w' hh => ⟨by rw [hh.1, q1], q, hh.2⟩)
      have C0 : Hid (∀ q, Calls Try.prog 28 #[.slice s0 n0 p0, .int .i64 u] (wr.drewN q) fun e w'' => e = .returned (.bool true) ∧ ∃ m, w'' = wr.drewN m) := Lib.hid (fun q => (has_of _ (ls 0) u _ (HV0.out.below (below_drewN HBr.out q)) (by have := HC.out.2.2.2.2 0 (by omega); omega)).mono fun e w' hh => ⟨by rw [hh.1, q0], q, hh.2⟩)
      rcases Nat.eq_zero_or_pos k with hk0 | hk0
      · subst hk0
        clear hu hcc hmem q0 q1 hc' hk2
        rw [Nat.add_zero] at ck
        rw [show ((0 : Nat) : Int) = 0 from rfl]
        go_wp2_with fail
        go_quiet ((first | (go_at_call 28; with_reducible exact C1.out _) | (go_at_call 28; with_reducible exact C0.out _)))
        have HBq : Hid (Below W.heap.size W (wr.drewN nq)) := Lib.hid (below_drewN HBr.out _)
        go_wp2_with fail
        go_roundw
        case rel => exact ⟨0 + 1, by omega, by go_num, HBq⟩
        case measure => simp [RowKit.intOf]; omega
      · obtain ⟨j, rfl⟩ : ∃ j, k = j + 1 := ⟨k - 1, by omega⟩
        have cj := hcc j (by omega)
        obtain ⟨u', hu'⟩ : ∃ u', (ls 2).getD j 0 = u' := ⟨_, rfl⟩
        rw [hu'] at cj
        have hlu : u' < u := by
          have := HC.out.1 j (by omega)
          rw [hu, hu'] at this
          exact this
        have hle : decide (u ≤ u') = false := by simp; omega
        have hle2 : ¬ u ≤ u' := by omega
        clear hu hu' hcc hmem q0 q1 hc' hk2
        obtain ⟨kk, hkk⟩ : ∃ kk, j + 1 = kk := ⟨_, rfl⟩
        rw [hkk] at ck hlt hk ⊢
        have hpos : decide ((0 : Int) < (kk : Int)) = true := by simp; omega
        have hpos2 : (0 : Int) < (kk : Int) := by omega
        have hpos3 : 0 < kk := by omega
        have hpos4 : decide (0 < kk) = true := by simp; omega
        have hw1 : (kk : Int) - 1 = (j : Int) := by omega
        have hw2 : IntKind.i64.wrap (j : Int) = (j : Int) := by rw [IntKind.wrap_i64]; have := HN.out.2.2.1; have := HC.out.2.2.2.2 2 (by omega); omega
        have hj2 : j < n2 := by omega
        have HKK := Lib.hid hkk
        have HLT := Lib.hid hlt
        clear hkk
        go_wp2_with fail
        go_quiet ((first | (go_at_call 28; with_reducible exact C1.out _) | (go_at_call 28; with_reducible exact C0.out _)))
        have HBq : Hid (Below W.heap.size W (wr.drewN nq)) := Lib.hid (below_drewN HBr.out _)
        have hkk2 : kk ≤ 2000 := by have := HLT.out; have := HN.out; have := HC.out.2.2.2.2 2 (by omega); omega
        go_wp2_with fail
        go_roundw
        case rel => exact ⟨kk + 1, by have := HLT.out; omega, by go_num, HBq⟩
        case measure => simp [RowKit.intOf]; have := HLT.out; omega
    · obtain rfl : n2 = k := by omega
      have HSZ : Hid (n1 ≤ 2000 ∧ n2 ≤ 2000 ∧ n0 ≤ 2000) := Lib.hid (by
        have h2 := HN.out
        have := HC.out.2.2.2.2 0 (by omega)
        have := HC.out.2.2.2.2 1 (by omega)
        have := HC.out.2.2.2.2 2 (by omega)
        omega)
      obtain ⟨g, hg12⟩ : ∃ g : Nat, n1 + n2 = g := ⟨_, rfl⟩
      have HGG := Lib.hid hg12
      have hgs : (n1 : Int) + (n2 : Int) = (g : Int) := by omega
      have hgw : IntKind.i64.wrap (g : Int) = (g : Int) := by rw [IntKind.wrap_i64]; have := HSZ.out; omega
      clear hg12
      go_wp2_with fail
      clear hgs hgw
      go_loopw [8, 9] (fun c i wr => ∃ (k : Nat), k ≤ n3 ∧ i = .int .i64 (k : Int) ∧ c = .int .i64 ((((ls 3).take k).filter fun v => !(ls 2).contains v).length : Int) ∧ Hid (Below W.heap.size W wr)) (fun _ i _ => n3 - (RowKit.intOf i).toNat)
      case atStart => exact ⟨0, by omega, rfl, by simp, HBr⟩
      case round =>
        clear z0 z1 z2 HBr
        obtain ⟨k, hk, rfl, hc, HBr⟩ := hrel
        obtain ⟨L, hL⟩ : ∃ L, (((ls 3).take k).filter fun v => !(ls 2).contains v).length = L := ⟨_, rfl⟩
        have hL2 : L ≤ 2000 := by
          rw [← hL]
          refine Nat.le_trans (List.length_filter_le _ _) ?_
          rw [List.length_take]
          have := HC.out.2.2.2.2 3 (by omega)
          omega
        rw [hL] at hc
        subst hc
        have z0 := (HBr.out.cell (p := ⟨B, 0, none⟩) HG.out.1).trans HG.out.2.1
        have z1 := (HBr.out.cell (p := ⟨B, 1, none⟩) HG.out.1).trans HG.out.2.2.1
        have z2 := (HBr.out.cell (p := ⟨B, 2, none⟩) HG.out.1).trans HG.out.2.2.2.1
        have z3 := (HBr.out.cell (p := ⟨B, 3, none⟩) HG.out.1).trans HG.out.2.2.2.2
        have HL := Lib.hid hL
        clear hL
        by_cases hlt : k < n3
        · obtain ⟨a', c', hv', hx1, hx2, hc'⟩ := HV3.out.below HBr.out
          obtain ⟨b, off, hs, hbl, hx3, hcc⟩ := hc' (by intro e; have := HN.out.2.2.2; rw [e] at this; simp at this; omega)
          simp only [Value.slice.injEq] at hv'
          obtain ⟨rfl, hx4, rfl⟩ := hv'
          subst hs
          clear hx1 hx2 hx3 hx4 hbl
          have ck := hcc k (by have := HN.out.2.2.2; omega)
          obtain ⟨u, hu⟩ : ∃ u, (ls 3).getD k 0 = u := ⟨_, rfl⟩
          rw [hu] at ck
          have hk3 : k < (ls 3).length := by have := HN.out.2.2.2; omega
          have hg : (ls 3)[k] = u := by rw [← hu, List.getD_eq_getElem?_getD, List.getElem?_eq_getElem hk3]; rfl
          obtain ⟨hb, hhb⟩ : ∃ hb, hasB (ls 2) u = hb := ⟨_, rfl⟩
          have C2 : Hid (∀ q, Calls Try.prog 28 #[.slice s2 n2 p2, .int .i64 u] (wr.drewN q) fun e w'' => e = .returned (.bool hb) ∧ ∃ m, w'' = wr.drewN m) := Lib.hid (fun q => (has_of _ (ls 2) u _ (HV2.out.below (below_drewN HBr.out q)) (by have := HC.out.2.2.2.2 2 (by omega); omega)).mono fun e w' hh => ⟨by rw [hh.1, hhb], q, hh.2⟩)
          have HL1 : Hid ((((ls 3).take (k + 1)).filter fun v => !(ls 2).contains v).length = L + (if hb then 0 else 1)) := Lib.hid (by
            rw [List.take_add_one, List.filter_append, List.length_append, HL.out, List.getElem?_eq_getElem hk3, hg]
            unfold hasB at hhb
            simp only [Option.toList, List.filter, hhb]
            cases hb <;> rfl)
          have HLT := Lib.hid hlt
          have hn33 : n3 ≤ 2000 := by have := HN.out; have := HC.out.2.2.2.2 3 (by omega); omega
          clear hu hcc hc' hk3 hg hhb HL
          cases hb with
          | true =>
            go_wp2_with fail
            go_quiet ((first | (go_at_call 28; with_reducible exact C2.out _)))
            have HBq : Hid (Below W.heap.size W (wr.drewN nq)) := Lib.hid (below_drewN HBr.out _)
            go_wp2_with fail
            go_roundw
            case rel => exact ⟨k + 1, by have := HLT.out; omega, by go_num, by rw [HL1.out]; rfl, HBq⟩
            case measure => simp [RowKit.intOf]; have := HLT.out; omega
          | false =>
            go_wp2_with fail
            go_quiet ((first | (go_at_call 28; with_reducible exact C2.out _)))
            have HBq : Hid (Below W.heap.size W (wr.drewN nq)) := Lib.hid (below_drewN HBr.out _)
            go_wp2_with fail
            go_roundw
            case rel => exact ⟨k + 1, by have := HLT.out; omega, by go_num, by rw [HL1.out]; go_num, HBq⟩
            case measure => simp [RowKit.intOf]; have := HLT.out; omega
        · obtain rfl : n3 = k := by omega
          have HE : Hid (n1 + n2 + L = n0) := Lib.hid (by
            have h := HC.out.2.2.2.1
            have h1 := HL.out
            have h2 := HN.out
            rw [← h2.2.2.2, List.take_length] at h1
            omega)
          clear HL
          have hw2 : IntKind.i64.wrap ((g : Int) + (L : Int)) = (n0 : Int) := by rw [IntKind.wrap_i64]; have := HE.out; have := HSZ.out; have := HGG.out; omega
          have hw3 : ((g : Int) + (L : Int)) = (n0 : Int) := by have := HE.out; have := HGG.out; omega
          have hw4 : ((n0 : Int) == (n0 : Int)) = true := by simp
          have hw5 : IntKind.i64.wrap (n0 : Int) = (n0 : Int) := by rw [IntKind.wrap_i64]; have := HSZ.out; omega
          have hw6 : wrap64 (n0 : Int) = (n0 : Int) := by unfold wrap64; have := HSZ.out; omega
          go_wp2_with fail
          go_ret
          exact ⟨rfl, btr HBW.out HBr.out⟩
set_option maxRecDepth 20000 in
theorem walk (a0 : Int) (a1 : Option Addr) (len1 cap1 : Nat) (z1 : Nat → Nat → Int) (w : World) (w0 : (Lit.int .u8 a0).wf = true) (w1 : IsGrid [.u8, .u8, .i64] w a1 len1 cap1 z1) :
    Calls Try.prog 4 #[.int .u8 a0, .slice a1 len1 cap1] w fun e w' => e = .returned (.bool true) ∧ Below w.heap.size w w' := by
  have h0 : 0 ≤ a0 ∧ a0 ≤ 255 := bounds_u8 w0
  obtain ⟨x, rfl⟩ : ∃ x : Nat, a0 = (x : Int) := ⟨a0.toNat, by omega⟩
  by_cases hl : len1 ≤ 300
  · refine core x _ _ len1 cap1 a1 w (by omega) rfl rfl hl fun k hk => ?_
    rcases w1.split (by decide) with h | ⟨b, off, rfl, hb, hle, hm, hc⟩
    · omega
    · have c0 := hc k (by omega) 0 .u8 rfl
      have c1 := hc k (by omega) 1 .u8 rfl
      have hy := bounds_u8 c0.2
      have hy1 := bounds_u8 c1.2
      exact ⟨b, off, _, _, rfl, hb, c0.1, hy.1, hy.2, by rw [Nat.add_assoc]; exact c1.1, hy1.1, hy1.2⟩
  · have hd5 : decide (300 < len1) = true := by simp; omega
    have hd6 : (300 : Int) < (len1 : Int) := by omega
    go_enter Try.func4, Try.ntmps4
    go_wp2_with fail
    refine (works13 w).mono ?_
    rintro e wk ⟨rfl, hbk⟩
    go_wp2_with fail
    go_ret
    exact ⟨rfl, hbk⟩
end Go.Proofs.Ytegbifphekhgkaa.dequeOnce
