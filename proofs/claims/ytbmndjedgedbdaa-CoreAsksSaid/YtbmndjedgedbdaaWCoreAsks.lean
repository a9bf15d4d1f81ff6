/- CoreAsks: what memory answers (layer 25). -/
import Derived.Test.YtbmndjedgedbdaaCoK
import Derived.Test.YtbmndjedgedbdaaGrids
import Derived.Deep.RegionHeld3
namespace Go.Proofs.Ytbmndjedgedbdaa.coreAsks
open Go.ChangeShapes Go.WideShapes Go.ChangeAt Go.RowKit
open Go.Proofs.Ytbmndjedgedbdaa.pr Go.Proofs.Ytbmndjedgedbdaa.co Go.Proofs.Ytbmndjedgedbdaa.rds
attribute [local go_sem ↓] Go.wp_at_zero Go.wp_at_succ
attribute [local go_sem] Oper.semAt_some
set_option linter.unusedVariables false
set_option linter.unusedSimpArgs false
def Grd (w : World) (a : Option Addr) (n : Nat) (z : Nat → Nat → Int) : Prop := ∀ k, k < n → ∃ b o, a = some ⟨b, o, none⟩ ∧ w.cell? ⟨b, o + k * 4, none⟩ = some (.int .i64 (z k 0)) ∧ w.cell? ⟨b, o + k * 4 + 1, none⟩ = some (.int .i64 (z k 1)) ∧ w.cell? ⟨b, o + k * 4 + 2, none⟩ = some (.int .i64 (z k 2)) ∧ w.cell? ⟨b, o + k * 4 + 3, none⟩ = some (.int .i64 (z k 3))
theorem Grd.below {w w' : World} {a : Option Addr} {n : Nat} {z : Nat → Nat → Int} (h : Grd w a n z) (hb : Below w.heap.size w w') : Grd w' a n z := fun k hk => by
  obtain ⟨b, o, e, h0, h1, h2, h3⟩ := h k hk
  exact ⟨b, o, e, kc h0 hb, kc h1 hb, kc h2 hb, kc h3 hb⟩
theorem grd_of {w : World} {a : Option Addr} {len cap : Nat} {z : Nat → Nat → Int} (h : IsGrid [.i64, .i64, .i64, .i64] w a len cap z) : Grd w a len z := fun k hk => by
  rcases h with ⟨rfl, rfl, rfl⟩ | ⟨x, rfl, hl, hm, hc⟩
  · omega
  · obtain ⟨b, o, spot⟩ := x
    have hspot : spot = none := by simpa [Addr.add] using World.cell?_spot (hc 0 (by omega) 0 .i64 rfl).1
    subst hspot
    have h0 := (hc k (by omega) 0 .i64 rfl).1
    have h1 := (hc k (by omega) 1 .i64 rfl).1
    have h2 := (hc k (by omega) 2 .i64 rfl).1
    have h3 := (hc k (by omega) 3 .i64 rfl).1
    rw [Go.WideShapes.add_plain] at h0 h1 h2 h3
    exact ⟨b, o, rfl, h0, h1, h2, h3⟩
theorem s4b {b o k : Nat} {p0 p1 p2 p3 : Int} {w w' : World} (h : w.cell? ⟨b, o + k * 4, none⟩ = some (.int .i64 p0) ∧ w.cell? ⟨b, o + k * 4 + 1, none⟩ = some (.int .i64 p1) ∧ w.cell? ⟨b, o + k * 4 + 2, none⟩ = some (.int .i64 p2) ∧ w.cell? ⟨b, o + k * 4 + 3, none⟩ = some (.int .i64 p3)) (hb : Below w.heap.size w w') : w'.cell? ⟨b, o + k * 4, none⟩ = some (.int .i64 p0) ∧ w'.cell? ⟨b, o + k * 4 + 1, none⟩ = some (.int .i64 p1) ∧ w'.cell? ⟨b, o + k * 4 + 2, none⟩ = some (.int .i64 p2) ∧ w'.cell? ⟨b, o + k * 4 + 3, none⟩ = some (.int .i64 p3) := by
  obtain ⟨h0, h1, h2, h3⟩ := h
  exact ⟨kc h0 hb, kc h1 hb, kc h2 hb, kc h3 hb⟩
/-- the document's memory: a row of its own, behind the block G. -/
def MR (G : Nat) (w : World) (v : Value) (ds : List Int) : Prop := ∃ B, G < B ∧ w.ownsRow B 3 1 v ds.length (ds.map (Value.int .i64))
theorem MR.view {G : Nat} {w : World} {v : Value} {ds : List Int} (h : MR G w v ds) : View w v ds := by
  obtain ⟨B, _, h⟩ := h
  exact view_of_own h
theorem MR.keep {G : Nat} {w w' : World} {v : Value} {ds : List Int} (h : MR G w v ds) (hk : Keep G w w') : MR G w' v ds := by
  obtain ⟨B, hB, hl, h | ⟨g, cap, cur, rfl, hg, hh, h3⟩⟩ := h
  · exact ⟨B, hB, hl, .inl h⟩
  · exact ⟨B, hB, hl, .inr ⟨g, cap, cur, rfl, hg, hk.block hh (by omega), h3⟩⟩
theorem MR.form {G : Nat} {w : World} {v : Value} {ds : List Int} (h : MR G w v ds) : ∃ a n c, v = .slice a n c := by
  obtain ⟨B, hB, hl, ⟨rfl, _⟩ | ⟨g, cap, cur, rfl, _⟩⟩ := h
  · exact ⟨_, _, _, rfl⟩
  · exact ⟨_, _, _, rfl⟩
set_option maxRecDepth 20000 in
set_option maxHeartbeats 4000000 in
theorem core (mm : Nat) (hm8 : mm ≤ 255) (a1 : Option Addr) (n c0 : Nat) (z : Nat → Nat → Int) (w : World) (hg : Grd w a1 n z) :
    Calls Try.prog 4 #[.int .u8 (mm : Int), .slice a1 n c0] w fun e w' => e = .returned (.bool true) ∧ Below w.heap.size w w' := by
  have HG := Lib.hid hg
  have HWK := Lib.hid (works_v w)
  clear hg
  by_cases hbig : 100 < n
  · go_enter Try.func4, Try.ntmps4
    go_wp2_with (go_at_call 6; (with_reducible refine HWK.out.mono ?_); rintro _ w1 ⟨rfl, hb1⟩)
    go_ret
    exact ⟨rfl, hb1⟩
  have hn : n ≤ 100 := by omega
  have e1 : IntKind.i64.wrap (mm : Int) = (mm : Int) := by rw [IntKind.wrap_i64]; omega
  go_enter Try.func4, Try.ntmps4
  go_upto_region 5 with (go_at_call 6; (with_reducible refine HWK.out.mono ?_); rintro _ w1 ⟨rfl, hb1⟩; have HB1 := Lib.hid hb1; clear hb1)
  obtain ⟨W, hW⟩ : ∃ W, (w1.alloc (.cells #[.int .i64 0, .int .i64 0, .int .i64 0, .int .i64 0] 68)).alloc (.cells #[.slice (some ⟨w1.heap.size, 0, none⟩) 1 1] 69) = W := ⟨_, rfl⟩
  have HBW : Hid (Below w.heap.size w W) := Lib.hid (by rw [← hW]; exact bl_al (bl_al HB1.out _) _)
  have hr0 : W.heap[w1.heap.size]? = some (.cells #[.int .i64 0, .int .i64 0, .int .i64 0, .int .i64 0] 68 (0, 0)) := by rw [← hW]; exact bl_blk (heap_new w1 _) (by go_grown)
  have hr1 : W.heap[w1.heap.size + 1]? = some (.cells #[.slice (some ⟨w1.heap.size, 0, none⟩) 1 1] 69 (0, 0)) := by rw [← hW]; exact heap_newk _ _ (by simp)
  have hPM : PM W (.slice (some ⟨w1.heap.size + 1, 0, none⟩) 1 1) L2w := pm1 hr1 (OR.rv recI (or_lit hr0 rfl (by decide) rfl))
  have hNew : Hid (Calls Try.prog 8 #[.agg #[.int .i64 (mm : Int), .slice (some ⟨w1.heap.size + 1, 0, none⟩) 1 1], .slice none 0 0, .agg #[.int .i64 1, .int .i64 1, .int .i64 1, .int .i64 2, .int .i64 0, .bool false, .bool false]] W (NewP W 1 1 2 0 1 false false L2w (dsN mm [] 0))) := Lib.hid (new_p mm (some ⟨w1.heap.size + 1, 0, none⟩) 1 1 L2w none 0 0 [] 1 1 2 0 1 false false 16 W hPM ⟨rfl, fun i hi => by omega⟩ (co_0 (pr2 mm hm8) 0 ⟨1, 1, 1, 2, 0, false, false⟩ (show Okay 1 1 1 2 by unfold Okay; omega) (by decide) (by decide) (by omega)) (by decide) (by omega))
  have HW := Lib.hid hW
  clear hr0 hr1 hPM hW
  go_upto_region 6 with (go_at_call 8; rw [HW.out]; (with_reducible refine hNew.out.mono ?_); rintro _ w3 ⟨ws, C, Sw, gw, Sd, gd, O, Lg, St, T, A, Lb, n4, n6, fv, hv, bv, rows, ps, rfl, H3⟩)
  obtain ⟨KW, hKW⟩ : ∃ KW : List Int → World → Prop, KW = fun ds V => CoW W V 1 1 2 0 1 false false L2w ws ds C Sw gw Sd gd O Lg St T A Lb n4 n6 fv hv bv rows ps 0 0 0 := ⟨_, rfl⟩
  have K0 : Hid (KW (dsN mm [] 0) w3) := Lib.hid (by rw [hKW]; exact H3.out)
  have KBel : Hid (∀ ds V, KW ds V → Below W.heap.size W V) := Lib.hid (by rw [hKW]; exact fun _ _ h => h.bb)
  have KB : Hid (∀ ds V V', KW ds V → Below V.heap.size V V' → KW ds V') := Lib.hid (by rw [hKW]; exact fun _ _ _ h hb => h.below hb)
  have KA := Lib.hid (ask_pair KW hKW)
  have KD : Hid (∀ ds V, KW ds V → Calls Try.prog 22 #[.pointer (some ⟨C, 0, none⟩)] V fun e V' => e = .returned (.pointer (some ⟨Sd, 0, none⟩)) ∧ V' = V) := Lib.hid (by rw [hKW]; exact fun ds V h => data_v h.oo rfl)
  have KL : Hid (∀ ds V, KW ds V → ds.length ≤ 1000 → Calls Try.prog 14 #[.pointer (some ⟨Sd, 0, none⟩)] V (RowPost V.heap.size ds V)) := Lib.hid (by rw [hKW]; exact fun ds V h hl => all_any Sd gd ds V h.dd (by omega))
  have KGD : Hid (∀ ds V, KW ds V → gd < V.heap.size) := Lib.hid (by rw [hKW]; exact fun _ _ h => h.dd.facts.2.2.2.2.2)
  have hmk := run_make_row' (P := Try.prog) 25 3 (.int .i64 0) 8 Try.underlying25 (by kernel_rfl) rfl .i64 .i64 mm (by omega) (by omega)
  clear hKW hNew H3 HW
  go_wp2_with fail
  have hrow := heap_new w3 (.cells (madeCells #[.int .i64 0] mm) 3)
  have HI : Hid (∃ ds, ds.length = mm ∧ KW ds (w3.alloc (.cells (madeCells #[.int .i64 0] mm) 3)) ∧ MR gd (w3.alloc (.cells (madeCells #[.int .i64 0] mm) 3)) (.slice (some ⟨w3.heap.size, 0, none⟩) mm mm) ds) := Lib.hid (by
    refine ⟨dsN mm [] 0, dsN_len _ _ _, KB.out _ _ _ K0.out (by go_grown), w3.heap.size, KGD.out _ _ K0.out, ?_⟩
    rw [zeros_cells] at hrow ⊢
    rw [dsN_zero]
    exact ⟨by simp, .inr ⟨w3.heap.size, mm, _, by simp, Nat.le_refl _, hrow, by simp, by unfold maxLen; omega, by simp, by simp⟩⟩)
  clear hrow
  go_loopw [7, 9] (fun x v wr => ∃ k : Nat, k ≤ n ∧ v = .int .i64 (k : Int) ∧ ∃ va vn vc, x = .slice va vn vc ∧ Hid (∃ ds, ds.length = mm ∧ KW ds wr ∧ MR gd wr (.slice va vn vc) ds)) (fun x v _ => n - (intOf v).toNat)
  case atStart => exact ⟨0, Nat.zero_le _, by go_num, _, _, _, rfl, HI⟩
  case round =>
    obtain ⟨k, hk, rfl, va, vn, vc, rfl, HK⟩ := hrel
    obtain ⟨ds, hds, hKw, hVw⟩ := HK.out
    have hBw : Below w.heap.size w wr := bl_tr HBW.out (KBel.out _ _ hKw)
    by_cases hlt : k < n
    · obtain ⟨b, o, rfl, g0, g1, g2, g3⟩ := (HG.out.below hBw) k hlt
      obtain ⟨p0, q0⟩ : ∃ p, z k 0 = p := ⟨_, rfl⟩
      obtain ⟨p1, q1⟩ : ∃ p, z k 1 = p := ⟨_, rfl⟩
      obtain ⟨p2, q2⟩ : ∃ p, z k 2 = p := ⟨_, rfl⟩
      obtain ⟨p3, q3⟩ : ∃ p, z k 3 = p := ⟨_, rfl⟩
      rw [q0] at g0
      rw [q1] at g1
      rw [q2] at g2
      rw [q3] at g3
      obtain ⟨ys, x, ok, hyl, hP, hR, hno⟩ := KA.out ds (by omega) p0 p1 p2 p3
      have HYL : Hid (ys.length = mm) := Lib.hid (hyl.trans hds)
      have d1 : (k : Int) < (n : Int) := by omega
      have hS0 : wr.drew.cell? ⟨b, o + k * 4, none⟩ = some (.int .i64 p0) ∧ wr.drew.cell? ⟨b, o + k * 4 + 1, none⟩ = some (.int .i64 p1) ∧ wr.drew.cell? ⟨b, o + k * 4 + 2, none⟩ = some (.int .i64 p2) ∧ wr.drew.cell? ⟨b, o + k * 4 + 3, none⟩ = some (.int .i64 p3) := ⟨g0, g1, g2, g3⟩
      have HKW := Lib.hid hKw
      have HVW := Lib.hid hVw
      have hbx : Below wr.heap.size wr (wr.alloc (.cells #[.int .i64 p0, .int .i64 p1, .int .i64 p2, .int .i64 p3, .int .i64 0] 72)).drew := ghd (by go_grown)
      have hSa := fun ob => s4b (w' := wr.alloc ob) (show wr.cell? ⟨b, o + k * 4, none⟩ = some (.int .i64 p0) ∧ wr.cell? ⟨b, o + k * 4 + 1, none⟩ = some (.int .i64 p1) ∧ wr.cell? ⟨b, o + k * 4 + 2, none⟩ = some (.int .i64 p2) ∧ wr.cell? ⟨b, o + k * 4 + 3, none⟩ = some (.int .i64 p3) from ⟨g0, g1, g2, g3⟩) (by go_grown)
      have hSb := fun ob => s4b (w' := (wr.alloc ob).drew) (show wr.cell? ⟨b, o + k * 4, none⟩ = some (.int .i64 p0) ∧ wr.cell? ⟨b, o + k * 4 + 1, none⟩ = some (.int .i64 p1) ∧ wr.cell? ⟨b, o + k * 4 + 2, none⟩ = some (.int .i64 p2) ∧ wr.cell? ⟨b, o + k * 4 + 3, none⟩ = some (.int .i64 p3) from ⟨g0, g1, g2, g3⟩) (ghd (by go_grown))
      have HBwr := Lib.hid hBw
      clear q0 q1 q2 q3 hyl hds HK hKw hVw hBw
      go_upto_region 13 with (fail)
      go_region_held3 (fun w' => w'.cell? ⟨b, o + k * 4, none⟩ = some (.int .i64 p0) ∧ w'.cell? ⟨b, o + k * 4 + 1, none⟩ = some (.int .i64 p1) ∧ w'.cell? ⟨b, o + k * 4 + 2, none⟩ = some (.int .i64 p2) ∧ w'.cell? ⟨b, o + k * 4 + 3, none⟩ = some (.int .i64 p3)) (first | (with_reducible assumption) | (with_reducible exact hS0) | (with_reducible exact hSa _) | (with_reducible exact hSb _)) (fail)
      obtain ⟨W5, hW5⟩ : ∃ W5, (wr.alloc (.cells #[.int .i64 p0, .int .i64 p1, .int .i64 p2, .int .i64 p3, .int .i64 0] 72)).drew = W5 := ⟨_, rfl⟩
      have hx5 : W5.heap[wr.heap.size]? = some (.cells #[.int .i64 p0, .int .i64 p1, .int .i64 p2, .int .i64 p3, .int .i64 0] 72 (0, 0)) := by rw [← hW5]; exact heap_new wr _
      rw [hW5] at hbx ⊢
      have HK5 := Lib.hid (KB.out _ _ _ HKW.out hbx)
      have HV5 := Lib.hid (HVW.out.keep (Keep.of_below hbx))
      have HX5 := Lib.hid hx5
      have HGX : Hid (wr.heap.size ≠ gd) := Lib.hid (by have := KGD.out _ _ HKW.out; omega)
      have x0 : W5.cell? ⟨wr.heap.size, 0, none⟩ = some (.int .i64 p0) := ro.cel hx5 0
      have x1 : W5.cell? ⟨wr.heap.size, 1, none⟩ = some (.int .i64 p1) := ro.cel hx5 1
      have x2 : W5.cell? ⟨wr.heap.size, 2, none⟩ = some (.int .i64 p2) := ro.cel hx5 2
      have x3 : W5.cell? ⟨wr.heap.size, 3, none⟩ = some (.int .i64 p3) := ro.cel hx5 3
      have x4 : W5.cell? ⟨wr.heap.size, 4, none⟩ = some (.int .i64 0) := ro.cel hx5 4
      have HPA := Lib.hid (hP.out _ HK5.out)
      clear hW5 hbx hx5 hSa hSb hS0 g0 g1 g2 g3 hP
      go_upto_region 15 with (go_at_call 30; (with_reducible refine HPA.out.mono ?_); rintro _ w6 ⟨rfl, hq6⟩)
      obtain ⟨hK6, hk6, hg6⟩ := hq6.out
      have hx6 := hk6.block HX5.out HGX.out
      have HX6 : Hid (∀ V, Below w6.heap.size w6 V → V.cell? ⟨wr.heap.size, 0, none⟩ = some (.int .i64 p0) ∧ V.cell? ⟨wr.heap.size, 1, none⟩ = some (.int .i64 p1) ∧ V.cell? ⟨wr.heap.size, 2, none⟩ = some (.int .i64 p2) ∧ V.cell? ⟨wr.heap.size, 3, none⟩ = some (.int .i64 p3) ∧ V.cell? ⟨wr.heap.size, 4, none⟩ = some (.int .i64 0)) := Lib.hid (fun V hb => have h := bl_blk hx6 hb; ⟨ro.cel h 0, ro.cel h 1, ro.cel h 2, ro.cel h 3, ro.cel h 4⟩)
      have HK6 := Lib.hid hK6
      have HV6 := Lib.hid (HV5.out.keep hk6)
      have HG6 : Hid (gd < w6.heap.size) := Lib.hid (Nat.lt_of_lt_of_le hg6 hk6.1)
      have hxl : wr.heap.size < w6.heap.size := lt_of_heap hx6
      obtain ⟨y0, y1, y2, y3, y4⟩ := HX6.out w6 (Below.refl _ _)
      clear hK6 hk6 hg6 hx6 hq6 HPA x0 x1 x2 x3 x4
      by_cases hk : 1 ≤ p0 ∧ p0 ≤ 4
      · have h1 : (1 : Int) ≤ p0 := hk.1
        have h2 : p0 ≤ 4 := hk.2
        have h1d : decide ((1 : Int) ≤ p0) = true := decide_eq_true h1
        have h2d : decide (p0 ≤ 4) = true := decide_eq_true h2
        by_cases hk4 : p0 = 4
        · subst hk4
          have HRD : Hid (∀ V, Below w6.heap.size w6 V → Calls Try.prog 31 #[.slice va vn vc, .agg #[.int .i64 3, .int .i64 p1, .int .i64 p3, .int .i64 p2]] V fun e V' => ∃ ua un uc, e = .returned (.tuple #[.slice ua un uc, .int .i64 x, .bool ok]) ∧ Hid (MR gd V' (.slice ua un uc) ys) ∧ Below V.heap.size V V') := Lib.hid (fun V hb => by
            have h := hR.out (by omega) V _ (HV6.out.keep (Keep.of_below hb)).view
            simp only [if_true] at h
            rw [show (4 : Int) - 1 = 3 from rfl] at h
            refine h.mono ?_
            rintro e V' ⟨v', rfl, h1, h2⟩
            have hm : MR gd V' v' ys := ⟨V.heap.size, Nat.lt_of_lt_of_le HG6.out hb.size, h1⟩
            obtain ⟨ua, un, uc, rfl⟩ := hm.form
            exact ⟨_, _, _, rfl, Lib.hid hm, h2⟩)
          clear hR hno
          go_upto_region 25 with (first | (go_at_call 31; (with_reducible refine (HRD.out _ (by go_grown)).mono ?_); rintro _ w7 ⟨ua, un, uc, rfl, HM7, hb7⟩))
          have HB7 : Hid (Below w6.heap.size w6 w7) := Lib.hid (Below.trans (B := w6.heap.size) (by go_grown) (hb7.mono (by simp)))
          clear hb7
          obtain ⟨t0, t1, t2, t3, t4⟩ := HX6.out w7 HB7.out
          have hbo : (ok != ok) = false := by cases ok <;> rfl
          go_wp2_with (first | (go_at_call 30; (with_reducible refine (ask_none _ _ _ _ _).mono ?_); rintro _ w8 ⟨rfl, hb8⟩; have HB8 := Lib.hid (bl_tr HB7.out hb8); have HM8 := Lib.hid (HM7.out.keep (Keep.of_below hb8)); clear hb8) | (go_at_call 22; (with_reducible refine (KD.out _ _ (KB.out _ _ _ HK6.out HB8.out)).mono ?_); rintro _ _ ⟨rfl, rfl⟩) | (go_at_call 14; (with_reducible refine (KL.out _ _ (KB.out _ _ _ HK6.out HB8.out) (by have := HYL.out; omega)).mono ?_); rintro _ w9 ⟨v9, rfl, hr9, hb9⟩; have HV9 := Lib.hid (view_of_own hr9); have HB9 := Lib.hid (bl_tr HB8.out hb9); have HM9 := Lib.hid (HM8.out.keep (Keep.of_below hb9)); clear hr9 hb9) | (go_at_call 21; (with_reducible refine (ints_any _ _ ys ys _ HV9.out HM9.out.view).mono ?_); rintro _ _ ⟨rfl, q10, rfl⟩; rw [beq_self_eq_true]; have hb10 : Below w9.heap.size w9 (w9.drewN q10) := ghb (Below.refl _ _) q10))
          have HKF := Lib.hid (KB.out _ _ _ HK6.out (bl_tr HB9.out hb10))
          have HMF := Lib.hid (HM9.out.keep (Keep.of_below hb10))
          clear hb10
          go_roundw
          case rel => exact ⟨k + 1, by omega, by go_num, _, _, _, rfl, Lib.hid ⟨ys, HYL.out, HKF.out, HMF.out⟩⟩
          case measure => simp [intOf]; omega
        · have h4b : (p0 == 4) = false := by simpa using hk4
          have h4d : decide (p0 = 4) = false := decide_eq_false hk4
          have hw1 : IntKind.i64.wrap (p0 - 1) = p0 - 1 := by rw [IntKind.wrap_i64]; omega
          have HRD : Hid (∀ V, Below w6.heap.size w6 V → Calls Try.prog 31 #[.slice va vn vc, .agg #[.int .i64 (p0 - 1), .int .i64 p1, .int .i64 p2, .int .i64 0]] V fun e V' => ∃ ua un uc, e = .returned (.tuple #[.slice ua un uc, .int .i64 x, .bool ok]) ∧ Hid (MR gd V' (.slice ua un uc) ys) ∧ Below V.heap.size V V') := Lib.hid (fun V hb => by
            have h := hR.out (by omega) V _ (HV6.out.keep (Keep.of_below hb)).view
            simp only [if_neg hk4] at h
            refine h.mono ?_
            rintro e V' ⟨v', rfl, h1, h2⟩
            have hm : MR gd V' v' ys := ⟨V.heap.size, Nat.lt_of_lt_of_le HG6.out hb.size, h1⟩
            obtain ⟨ua, un, uc, rfl⟩ := hm.form
            exact ⟨_, _, _, rfl, Lib.hid hm, h2⟩)
          clear hR hno
          go_upto_region 25 with (first | (go_at_call 31; (with_reducible refine (HRD.out _ (by go_grown)).mono ?_); rintro _ w7 ⟨ua, un, uc, rfl, HM7, hb7⟩))
          have HB7 : Hid (Below w6.heap.size w6 w7) := Lib.hid (Below.trans (B := w6.heap.size) (by go_grown) (hb7.mono (by simp)))
          clear hb7
          obtain ⟨t0, t1, t2, t3, t4⟩ := HX6.out w7 HB7.out
          have hbo : (ok != ok) = false := by cases ok <;> rfl
          go_wp2_with (first | (go_at_call 30; (with_reducible refine (ask_none _ _ _ _ _).mono ?_); rintro _ w8 ⟨rfl, hb8⟩; have HB8 := Lib.hid (bl_tr HB7.out hb8); have HM8 := Lib.hid (HM7.out.keep (Keep.of_below hb8)); clear hb8) | (go_at_call 22; (with_reducible refine (KD.out _ _ (KB.out _ _ _ HK6.out HB8.out)).mono ?_); rintro _ _ ⟨rfl, rfl⟩) | (go_at_call 14; (with_reducible refine (KL.out _ _ (KB.out _ _ _ HK6.out HB8.out) (by have := HYL.out; omega)).mono ?_); rintro _ w9 ⟨v9, rfl, hr9, hb9⟩; have HV9 := Lib.hid (view_of_own hr9); have HB9 := Lib.hid (bl_tr HB8.out hb9); have HM9 := Lib.hid (HM8.out.keep (Keep.of_below hb9)); clear hr9 hb9) | (go_at_call 21; (with_reducible refine (ints_any _ _ ys ys _ HV9.out HM9.out.view).mono ?_); rintro _ _ ⟨rfl, q10, rfl⟩; rw [beq_self_eq_true]; have hb10 : Below w9.heap.size w9 (w9.drewN q10) := ghb (Below.refl _ _) q10))
          have HKF := Lib.hid (KB.out _ _ _ HK6.out (bl_tr HB9.out hb10))
          have HMF := Lib.hid (HM9.out.keep (Keep.of_below hb10))
          clear hb10
          go_roundw
          case rel => exact ⟨k + 1, by omega, by go_num, _, _, _, rfl, Lib.hid ⟨ys, HYL.out, HKF.out, HMF.out⟩⟩
          case measure => simp [intOf]; omega
      · have h12 : (if decide ((1 : Int) ≤ p0) = true then decide (p0 ≤ 4) else false) = false := by
          by_cases h : (1 : Int) ≤ p0
          · have : ¬ p0 ≤ 4 := fun h2 => hk ⟨h, h2⟩
            simp [h, this]
          · simp [h]
        obtain ⟨rfl, rfl, rfl⟩ := hno hk
        clear hR hno
        by_cases h1 : (1 : Int) ≤ p0
        · have h1d : decide ((1 : Int) ≤ p0) = true := decide_eq_true h1
          have h2 : ¬ p0 ≤ 4 := fun h2 => hk ⟨h1, h2⟩
          have h2d : decide (p0 ≤ 4) = false := decide_eq_false h2
          have hbz : (false != false) = false := rfl
          go_wp2_with (first | (go_at_call 30; (with_reducible refine (ask_none _ _ _ _ _).mono ?_); rintro _ w8 ⟨rfl, hb8⟩; have HB8 := Lib.hid (bl_tr (Below.refl _ _) hb8); have HM8 := Lib.hid (HV6.out.keep (Keep.of_below hb8)); clear hb8) | (go_at_call 22; (with_reducible refine (KD.out _ _ (KB.out _ _ _ HK6.out HB8.out)).mono ?_); rintro _ _ ⟨rfl, rfl⟩) | (go_at_call 14; (with_reducible refine (KL.out _ _ (KB.out _ _ _ HK6.out HB8.out) (by have := HYL.out; omega)).mono ?_); rintro _ w9 ⟨v9, rfl, hr9, hb9⟩; have HV9 := Lib.hid (view_of_own hr9); have HB9 := Lib.hid (bl_tr HB8.out hb9); have HM9 := Lib.hid (HM8.out.keep (Keep.of_below hb9)); clear hr9 hb9) | (go_at_call 21; (with_reducible refine (ints_any _ _ ys ys _ HV9.out HM9.out.view).mono ?_); rintro _ _ ⟨rfl, q10, rfl⟩; rw [beq_self_eq_true]; have hb10 : Below w9.heap.size w9 (w9.drewN q10) := ghb (Below.refl _ _) q10))
          have HKF := Lib.hid (KB.out _ _ _ HK6.out (bl_tr HB9.out hb10))
          have HMF := Lib.hid (HM9.out.keep (Keep.of_below hb10))
          clear hb10
          go_roundw
          case rel => exact ⟨k + 1, by omega, by go_num, _, _, _, rfl, Lib.hid ⟨ys, HYL.out, HKF.out, HMF.out⟩⟩
          case measure => simp [intOf]; omega
        · have h1d : decide ((1 : Int) ≤ p0) = false := decide_eq_false h1
          have hbz : (false != false) = false := rfl
          go_wp2_with (first | (go_at_call 30; (with_reducible refine (ask_none _ _ _ _ _).mono ?_); rintro _ w8 ⟨rfl, hb8⟩; have HB8 := Lib.hid (bl_tr (Below.refl _ _) hb8); have HM8 := Lib.hid (HV6.out.keep (Keep.of_below hb8)); clear hb8) | (go_at_call 22; (with_reducible refine (KD.out _ _ (KB.out _ _ _ HK6.out HB8.out)).mono ?_); rintro _ _ ⟨rfl, rfl⟩) | (go_at_call 14; (with_reducible refine (KL.out _ _ (KB.out _ _ _ HK6.out HB8.out) (by have := HYL.out; omega)).mono ?_); rintro _ w9 ⟨v9, rfl, hr9, hb9⟩; have HV9 := Lib.hid (view_of_own hr9); have HB9 := Lib.hid (bl_tr HB8.out hb9); have HM9 := Lib.hid (HM8.out.keep (Keep.of_below hb9)); clear hr9 hb9) | (go_at_call 21; (with_reducible refine (ints_any _ _ ys ys _ HV9.out HM9.out.view).mono ?_); rintro _ _ ⟨rfl, q10, rfl⟩; rw [beq_self_eq_true]; have hb10 : Below w9.heap.size w9 (w9.drewN q10) := ghb (Below.refl _ _) q10))
          have HKF := Lib.hid (KB.out _ _ _ HK6.out (bl_tr HB9.out hb10))
          have HMF := Lib.hid (HM9.out.keep (Keep.of_below hb10))
          clear hb10
          go_roundw
          case rel => exact ⟨k + 1, by omega, by go_num, _, _, _, rfl, Lib.hid ⟨ys, HYL.out, HKF.out, HMF.out⟩⟩
          case measure => simp [intOf]; omega
    · obtain rfl : k = n := by omega
      have HBr := Lib.hid hBw
      go_wp2_with fail
      go_ret
      exact ⟨rfl, HBr.out⟩
theorem walk (a0 : Int) (a1 : Option Addr) (len1 cap1 : Nat) (z1 : Nat → Nat → Int) (w : World) (w0 : (Lit.int .u8 a0).wf = true) (w1 : IsGrid [.i64, .i64, .i64, .i64] w a1 len1 cap1 z1) :
    Calls Try.prog 4 #[.int .u8 a0, .slice a1 len1 cap1] w fun e w' => e = .returned (.bool true) ∧ Below w.heap.size w w' := by
  have h : 0 ≤ a0 ∧ a0 ≤ 255 := by
    have h := w0
    simp [Lit.wf] at h
    exact h
  obtain ⟨m, rfl⟩ : ∃ m : Nat, a0 = (m : Int) := ⟨a0.toNat, by omega⟩
  exact core m (by omega) a1 len1 cap1 z1 w (grd_of w1)
end Go.Proofs.Ytbmndjedgedbdaa.coreAsks
