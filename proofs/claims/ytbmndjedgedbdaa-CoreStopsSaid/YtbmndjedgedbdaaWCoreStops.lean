/- CoreStops: a run that was let end stays as it ended (layer 25). -/
import Derived.Test.YtbmndjedgedbdaaCoJ
import Derived.Test.YtbmndjedgedbdaaGrids
import Derived.Test.YtbmndjedgedbdaaReC
namespace Go.Proofs.Ytbmndjedgedbdaa.coreStops
open Go.ChangeShapes Go.WideShapes Go.ChangeAt Go.RowKit
open Go.Proofs.Ytbmndjedgedbdaa.pr Go.Proofs.Ytbmndjedgedbdaa.co
attribute [local go_sem ↓] Go.wp_at_zero Go.wp_at_succ
attribute [local go_sem] Oper.semAt_some
set_option linter.unusedVariables false
set_option linter.unusedSimpArgs false
/-- the pairs that came in. -/
def Grd (w : World) (a : Option Addr) (n : Nat) (z : Nat → Nat → Int) : Prop := ∀ k, k < n → ∃ b o, a = some ⟨b, o, none⟩ ∧ w.cell? ⟨b, o + k * 2, none⟩ = some (.int .i64 (z k 0)) ∧ w.cell? ⟨b, o + k * 2 + 1, none⟩ = some (.int .i64 (z k 1))
theorem Grd.below {w w' : World} {a : Option Addr} {n : Nat} {z : Nat → Nat → Int} (h : Grd w a n z) (hb : Below w.heap.size w w') : Grd w' a n z := fun k hk => by
  obtain ⟨b, o, e, h0, h1⟩ := h k hk
  exact ⟨b, o, e, kc h0 hb, kc h1 hb⟩
theorem grd_of {w : World} {a : Option Addr} {len cap : Nat} {z : Nat → Nat → Int} (h : IsGrid [.i64, .i64] w a len cap z) : Grd w a len z := fun k hk => by
  rcases h with ⟨rfl, rfl, rfl⟩ | ⟨x, rfl, hl, hm, hc⟩
  · omega
  · obtain ⟨b, o, spot⟩ := x
    have hspot : spot = none := by simpa [Addr.add] using World.cell?_spot (hc 0 (by omega) 0 .i64 rfl).1
    subst hspot
    have h0 := (hc k (by omega) 0 .i64 rfl).1
    have h1 := (hc k (by omega) 1 .i64 rfl).1
    rw [Go.WideShapes.add_plain] at h0 h1
    exact ⟨b, o, rfl, h0, h1⟩
abbrev code3 : List I4 := [(21, 0, 0, 0), (1, 3, 4, 0), (0, 0, 0, 0)]
abbrev c3 : Array Value := #[.int .i64 21, .int .i64 0, .int .i64 0, .int .i64 0, .int .i64 1, .int .i64 3, .int .i64 4, .int .i64 0, .int .i64 0, .int .i64 0, .int .i64 0, .int .i64 0]
def wantI (fn pc : Int) : I4 := if fn < 0 ∨ pc < 0 then d4 else (L3w.getD fn.toNat []).getD pc.toNat d4
theorem want_no {fn pc : Int} (h : ¬ (fn = 1 ∧ 0 ≤ pc ∧ pc < 3)) : wantI fn pc = d4 := by
  unfold wantI
  split
  · rfl
  · rename_i h1
    obtain ⟨f, rfl⟩ : ∃ f : Nat, fn = (f : Int) := ⟨fn.toNat, by omega⟩
    obtain ⟨p, rfl⟩ : ∃ p : Nat, pc = (p : Int) := ⟨pc.toNat, by omega⟩
    simp only [Int.toNat_natCast]
    match f, p with
    | 0, 0 => rfl
    | 0, p + 1 => rfl
    | 1, 0 => omega
    | 1, 1 => omega
    | 1, 2 => omega
    | 1, p + 3 => rfl
    | f + 2, p => rfl
set_option maxRecDepth 20000 in
set_option maxHeartbeats 4000000 in
theorem core (a0 : Option Addr) (n c0 : Nat) (z : Nat → Nat → Int) (fn pc : Int) (w : World) (hg : Grd w a0 n z) :
    Calls Try.prog 5 #[.slice a0 n c0, .int .i64 fn, .int .i64 pc] w fun e w' => e = .returned (.bool true) ∧ Below w.heap.size w w' := by
  have HG := Lib.hid hg
  have HWK := Lib.hid (works_v w)
  clear hg
  by_cases hbig : 100 < n
  · go_enter Try.func5, Try.ntmps5
    go_wp2_with (go_at_call 6; (with_reducible refine HWK.out.mono ?_); rintro _ w1 ⟨rfl, hb1⟩)
    go_ret
    exact ⟨rfl, hb1⟩
  have hn : n ≤ 100 := by omega
  go_enter Try.func5, Try.ntmps5
  go_upto_region 6 with (go_at_call 6; (with_reducible refine HWK.out.mono ?_); rintro _ w1 ⟨rfl, hb1⟩; have HB1 := Lib.hid hb1; clear hb1)
  have HN3 : Hid (∃ X, X = ((w1.alloc (.cells c3 68)).alloc (.cells #[.int .i64 0, .int .i64 0, .int .i64 0, .int .i64 0] 68)).alloc (.cells #[] 68)) := Lib.hid ⟨_, rfl⟩
  go_wp2_with (at_builtin; refine wpList_copyRw (by rfl) _ _ 69 68 _ _ rfl Try.underlying69 infoI rfl (by decide) recI (w1.heap.size + 1 + 1) (w1.heap.size + 1 + 1) rfl ?own (Nat.le_refl _) code3 ?rv (by simp) ?_)
  case own => exact heap_newk _ _ (by simp)
  case rv =>
    exact OR.rv recI (or_lit (bl_blk (heap_new w1 (.cells c3 68)) (by go_grown)) rfl (by omega) rfl)
  intro v' w2 hor hb2
  obtain ⟨va, vc, rfl⟩ := OR.form hor
  obtain ⟨W, hW⟩ : ∃ W, w2.alloc (.cells #[.slice (some ⟨w1.heap.size + 1, 0, none⟩) 1 1, .slice va 3 vc] 69) = W := ⟨_, rfl⟩
  have hb2w : Below w1.heap.size w1 w2 := Below.trans (B := w1.heap.size) (by go_grown) (hb2.mono (by omega))
  have hz2 : w1.heap.size + 1 + 1 ≤ w2.heap.size := by have := hb2.size; simp at this; omega
  have HBW : Hid (Below w.heap.size w W) := Lib.hid (by rw [← hW]; exact bl_al (bl_tr HB1.out hb2w) _)
  have hblk : ∀ (k : Nat) (ob : Obj), k < w1.heap.size + 1 + 1 → (((w1.alloc (.cells c3 68)).alloc (.cells #[.int .i64 0, .int .i64 0, .int .i64 0, .int .i64 0] 68)).alloc (.cells #[] 68)).heap[k]? = some ob → W.heap[k]? = some ob := fun k ob hk h => by
    rw [← hW]
    exact bl_blk ((hb2.block k hk).trans h) (by go_grown)
  have hc3 : W.heap[w1.heap.size]? = some (.cells c3 68 (0, 0)) := hblk _ _ (by omega) (bl_blk (heap_new w1 _) (by go_grown))
  have hr1 : W.heap[w1.heap.size + 1]? = some (.cells #[.int .i64 0, .int .i64 0, .int .i64 0, .int .i64 0] 68 (0, 0)) := hblk _ _ (by omega) (bl_blk (heap_newk (w1.alloc _) _ (by simp)) (by go_grown))
  have hPM : PM W (.slice (some ⟨w2.heap.size, 0, none⟩) 2 2) L3w := pm2 (by rw [← hW]; exact heap_new w2 _) (OR.rv recI (or_lit hr1 rfl (by decide) rfl)) (OR.rv recI (OR.below hor (by rw [← hW]; go_grown)))
  have hNew : Hid (Calls Try.prog 8 #[.agg #[.int .i64 0, .slice (some ⟨w2.heap.size, 0, none⟩) 2 2], .slice none 0 0, .agg #[.int .i64 1, .int .i64 1, .int .i64 1, .int .i64 2, .int .i64 0, .bool false, .bool false]] W (NewP W 1 1 2 0 1 false false L3w (dsN 0 [] 0))) := Lib.hid (new_p 0 (some ⟨w2.heap.size, 0, none⟩) 2 2 L3w none 0 0 [] 1 1 2 0 1 false false 16 W hPM ⟨rfl, fun i hi => by omega⟩ (co_0 pr3 0 ⟨1, 1, 1, 2, 0, false, false⟩ (show Okay 1 1 1 2 by unfold Okay; omega) (by decide) (by decide) (by decide)) (by decide) (by omega))
  have HC3 := Lib.hid hc3
  have HW := Lib.hid hW
  clear hor hb2 hb2w hz2 hblk hc3 hr1 hPM hW HN3
  go_upto_region 7 with (go_at_call 8; rw [HW.out]; (with_reducible refine hNew.out.mono ?_); rintro _ w3 ⟨ws, C, Sw, gw, Sd, gd, O, Lg, St, T, A, Lb, n4, n6, fv, hv, bv, rows, ps, rfl, H3⟩)
  obtain ⟨KW, hKW⟩ : ∃ KW : Int → Int → Int → World → Prop, KW = fun se st wy V => CoW W V 1 1 2 0 1 false false L3w ws (dsN 0 [] 0) C Sw gw Sd gd O Lg St T A Lb n4 n6 fv hv bv rows ps se st wy := ⟨_, rfl⟩
  have K0 : Hid (KW 0 0 0 w3) := Lib.hid (by rw [hKW]; exact H3.out)
  have KBel : Hid (∀ se st wy V, KW se st wy V → Below W.heap.size W V) := Lib.hid (by rw [hKW]; exact fun _ _ _ _ h => h.bb)
  have KB : Hid (∀ se st wy V V', KW se st wy V → Below V.heap.size V V' → KW se st wy V') := Lib.hid (by rw [hKW]; exact fun _ _ _ _ _ h hb => h.below hb)
  have KG : Hid (∀ se wy V s y, KW se 0 wy V → Calls Try.prog 32 #[.pointer (some ⟨C, 0, none⟩), .int .i64 s, .int .i64 y] V fun e V' => e = .returned (.tuple #[]) ∧ Hid (KW se s y V')) := Lib.hid (by rw [hKW]; exact fun se wy V s y h => (stop_go h.oo s y).mono (fun e V' h' => ⟨h'.1, Lib.hid (h'.2 ▸ h.stop s y)⟩))
  have KN : Hid (∀ se st wy V s y, KW se st wy V → st ≠ 0 → Calls Try.prog 32 #[.pointer (some ⟨C, 0, none⟩), .int .i64 s, .int .i64 y] V fun e V' => e = .returned (.tuple #[]) ∧ Hid (KW se st wy V')) := Lib.hid (by rw [hKW]; exact fun se st wy V s y h h0 => (stop_no h.oo h0 s y).mono (fun e V' h' => ⟨h'.1, Lib.hid (h'.2 ▸ h)⟩))
  have KU : Hid (∀ se st wy V, KW se st wy V → Calls Try.prog 16 #[.pointer (some ⟨C, 0, none⟩)] V fun e V' => e = .returned (.tuple #[.int .i64 st, .int .i64 wy]) ∧ Hid (KW se st wy V')) := Lib.hid (by rw [hKW]; exact fun se st wy V h => (status_v h.oo).mono (fun e V' h' => by obtain ⟨h1, q, rfl⟩ := h'; exact ⟨h1, Lib.hid (h.below (ghb (Below.refl _ _) q))⟩))
  have KE : Hid (∀ (k : Nat) st wy V, KW (k : Int) st wy V → k ≤ 1000 → Calls Try.prog 33 #[.pointer (some ⟨C, 0, none⟩)] V fun e V' => e = .returned (.int .i64 ((k : Int) + 1)) ∧ Hid (KW ((k + 1 : Nat) : Int) st wy V')) := Lib.hid (by rw [hKW]; exact fun k st wy V h hk => (serial_v h.oo (by omega) (by omega)).mono (fun e V' h' => ⟨h'.1, Lib.hid (h'.2 ▸ h.serial _)⟩))
  have KC : Hid (∀ se st wy V, KW se st wy V → Calls Try.prog 34 #[.pointer (some ⟨C, 0, none⟩), .int .i64 fn, .int .i64 pc] V fun e V' => e = .returned (.agg #[.int .i64 (wantI fn pc).1, .int .i64 (wantI fn pc).2.1, .int .i64 (wantI fn pc).2.2.1, .int .i64 (wantI fn pc).2.2.2]) ∧ Below V.heap.size V V') := Lib.hid (by rw [hKW]; exact fun se st wy V h => h.code fn pc)
  clear hKW hNew H3 HW
  have hq0 : (0 : Int) = 0 := rfl
  go_wp2_with fail
  go_loopw [10, 11, 13] (fun x y v wr => ∃ (k : Nat) (st wy : Int), k ≤ n ∧ x = .int .i64 st ∧ y = .int .i64 wy ∧ v = .int .i64 (k : Int) ∧ (st = 0 ∧ k = 0 ∧ wy = 0 ∨ st ≠ 0) ∧ Hid (KW (k : Int) st wy wr)) (fun x y v _ => n - (intOf v).toNat)
  case atStart => exact ⟨0, 0, 0, Nat.zero_le _, by go_num, by go_num, by go_num, .inl ⟨rfl, rfl, rfl⟩, K0⟩
  case round =>
    obtain ⟨k, st, wy, hk, rfl, rfl, rfl, hsw, HK⟩ := hrel
    have hBw : Below w.heap.size w wr := bl_tr HBW.out (KBel.out _ _ _ _ HK.out)
    by_cases hlt : k < n
    · obtain ⟨b, o, rfl, g0, g1⟩ := (HG.out.below hBw) k hlt
      obtain ⟨p, hp⟩ : ∃ p, z k 0 = p := ⟨_, rfl⟩
      obtain ⟨q, hq⟩ : ∃ q, z k 1 = q := ⟨_, rfl⟩
      have HCel : Hid (∀ V, Below W.heap.size W V → V.cell? ⟨b, o + k * 2, none⟩ = some (.int .i64 p) ∧ V.cell? ⟨b, o + k * 2 + 1, none⟩ = some (.int .i64 q)) := Lib.hid (fun V hb => by
        obtain ⟨b', o', e, h0, h1⟩ := (HG.out.below (bl_tr HBW.out hb)) k hlt
        rw [Option.some.injEq, Addr.mk.injEq] at e
        obtain ⟨rfl, rfl, _⟩ := e
        rw [hp] at h0
        rw [hq] at h1
        exact ⟨h0, h1⟩)
      rw [hp] at g0
      rw [hq] at g1
      have d1 : (k : Int) < (n : Int) := by omega
      have d2 : IntKind.i64.wrap ((k : Int) + 1) = (k : Int) + 1 := by rw [IntKind.wrap_i64]; omega
      clear hBw hp hq hq0
      by_cases hst : st = 0
      · obtain ⟨rfl, rfl⟩ : st = 0 ∧ wy = 0 := by
          rcases hsw with h | h
          · exact ⟨h.1, h.2.2⟩
          · exact absurd hst h
        clear hsw hst
        by_cases hp : p = 0
        · subst hp
          have HKd : Hid (KW (k : Int) 0 0 wr.drew) := Lib.hid (KB.out _ _ _ _ _ HK.out (ghd (Below.refl _ _)))
          have hS0 : wr.drew.cell? ⟨b, o + k * 2, none⟩ = some (.int .i64 0) ∧ wr.drew.cell? ⟨b, o + k * 2 + 1, none⟩ = some (.int .i64 q) := ⟨g0, g1⟩
          go_upto_region 19 with (fail)
          go_region_held3 (fun w' => w'.cell? ⟨b, o + k * 2, none⟩ = some (.int .i64 0) ∧ w'.cell? ⟨b, o + k * 2 + 1, none⟩ = some (.int .i64 q)) (first | (with_reducible assumption) | (with_reducible exact hS0) | (with_reducible exact hS5))
            ((go_at_call 32; (with_reducible refine (KG.out _ _ _ 0 q HKd.out).mono ?_); rintro e w5 ⟨rfl, HK5⟩; obtain ⟨r0, r1⟩ := HCel.out w5 (KBel.out _ _ _ _ HK5.out); have hS5 := And.intro r0 r1))
          have HK5d : Hid (KW (k : Int) 0 q w5.drew) := Lib.hid (KB.out _ _ _ _ _ HK5.out (ghd (Below.refl _ _)))
          have hS6 : w5.drew.cell? ⟨b, o + k * 2, none⟩ = some (.int .i64 0) ∧ w5.drew.cell? ⟨b, o + k * 2 + 1, none⟩ = some (.int .i64 q) := ⟨r0, r1⟩
          clear hS0 hS5
          go_upto_region 20 with (fail)
          go_region_held3 (fun w' => w'.cell? ⟨b, o + k * 2, none⟩ = some (.int .i64 0) ∧ w'.cell? ⟨b, o + k * 2 + 1, none⟩ = some (.int .i64 q)) (first | (with_reducible assumption) | (with_reducible exact hS6))
            ((go_at_call 32; (with_reducible refine (stop_nil 0 q).mono ?_); rintro e w6 ⟨rfl, rfl⟩))
          clear hS6
          go_wp2_with (first | (go_at_call 16; (with_reducible refine (KU.out _ _ _ _ HK5d.out).mono ?_); rintro _ w6 ⟨rfl, HK6⟩; obtain ⟨y0, y1⟩ := HCel.out w6 (KBel.out _ _ _ _ HK6.out)) | (go_at_call 33; (with_reducible refine (KE.out k _ _ _ HK6.out (by omega)).mono ?_); rintro _ w7 ⟨rfl, HK7⟩; obtain ⟨x0, x1⟩ := HCel.out w7 (KBel.out _ _ _ _ HK7.out)))
          go_ret
          exact ⟨rfl, bl_tr HBW.out (KBel.out _ _ _ _ HK7.out)⟩
        · have hne : p ≠ 0 := hp
          have p1 := (by simpa using hp : (p == 0) = false)
          have p2 : decide (p = 0) = false := decide_eq_false hp
          have p3 : (p != 0) = true := by simpa using hp
          have HKd : Hid (KW (k : Int) 0 0 wr.drew) := Lib.hid (KB.out _ _ _ _ _ HK.out (ghd (Below.refl _ _)))
          have hS0 : wr.drew.cell? ⟨b, o + k * 2, none⟩ = some (.int .i64 p) ∧ wr.drew.cell? ⟨b, o + k * 2 + 1, none⟩ = some (.int .i64 q) := ⟨g0, g1⟩
          go_upto_region 19 with (fail)
          go_region_held3 (fun w' => w'.cell? ⟨b, o + k * 2, none⟩ = some (.int .i64 p) ∧ w'.cell? ⟨b, o + k * 2 + 1, none⟩ = some (.int .i64 q)) (first | (with_reducible assumption) | (with_reducible exact hS0) | (with_reducible exact hS5))
            ((go_at_call 32; (with_reducible refine (KG.out _ _ _ p q HKd.out).mono ?_); rintro e w5 ⟨rfl, HK5⟩; obtain ⟨r0, r1⟩ := HCel.out w5 (KBel.out _ _ _ _ HK5.out); have hS5 := And.intro r0 r1))
          have HK5d : Hid (KW (k : Int) p q w5.drew) := Lib.hid (KB.out _ _ _ _ _ HK5.out (ghd (Below.refl _ _)))
          have hS6 : w5.drew.cell? ⟨b, o + k * 2, none⟩ = some (.int .i64 p) ∧ w5.drew.cell? ⟨b, o + k * 2 + 1, none⟩ = some (.int .i64 q) := ⟨r0, r1⟩
          clear hS0 hS5
          go_upto_region 20 with (fail)
          go_region_held3 (fun w' => w'.cell? ⟨b, o + k * 2, none⟩ = some (.int .i64 p) ∧ w'.cell? ⟨b, o + k * 2 + 1, none⟩ = some (.int .i64 q)) (first | (with_reducible assumption) | (with_reducible exact hS6))
            ((go_at_call 32; (with_reducible refine (stop_nil p q).mono ?_); rintro e w6 ⟨rfl, rfl⟩))
          clear hS6
          go_wp2_with (first | (go_at_call 16; (with_reducible refine (KU.out _ _ _ _ HK5d.out).mono ?_); rintro _ w6 ⟨rfl, HK6⟩; obtain ⟨y0, y1⟩ := HCel.out w6 (KBel.out _ _ _ _ HK6.out)) | (go_at_call 33; (with_reducible refine (KE.out k _ _ _ HK6.out (by omega)).mono ?_); rintro _ w7 ⟨rfl, HK7⟩; obtain ⟨x0, x1⟩ := HCel.out w7 (KBel.out _ _ _ _ HK7.out)))
          go_roundw
          case rel => exact ⟨k + 1, p, q, by omega, by go_num, by go_num, by go_num, .inr hne, HK7⟩
          case measure => simp [intOf]; omega
      · clear hsw
        have s1 : (st == 0) = false := by simpa using hst
        have s2 : decide (st = 0) = false := decide_eq_false hst
        by_cases hp : p = 0
        · subst hp
          have HKd : Hid (KW (k : Int) st wy wr.drew) := Lib.hid (KB.out _ _ _ _ _ HK.out (ghd (Below.refl _ _)))
          have hS0 : wr.drew.cell? ⟨b, o + k * 2, none⟩ = some (.int .i64 0) ∧ wr.drew.cell? ⟨b, o + k * 2 + 1, none⟩ = some (.int .i64 q) := ⟨g0, g1⟩
          go_upto_region 19 with (fail)
          go_region_held3 (fun w' => w'.cell? ⟨b, o + k * 2, none⟩ = some (.int .i64 0) ∧ w'.cell? ⟨b, o + k * 2 + 1, none⟩ = some (.int .i64 q)) (first | (with_reducible assumption) | (with_reducible exact hS0) | (with_reducible exact hS5))
            ((go_at_call 32; (with_reducible refine (KN.out _ _ _ _ 0 q HKd.out hst).mono ?_); rintro e w5 ⟨rfl, HK5⟩; obtain ⟨r0, r1⟩ := HCel.out w5 (KBel.out _ _ _ _ HK5.out); have hS5 := And.intro r0 r1))
          have HK5d : Hid (KW (k : Int) st wy w5.drew) := Lib.hid (KB.out _ _ _ _ _ HK5.out (ghd (Below.refl _ _)))
          have hS6 : w5.drew.cell? ⟨b, o + k * 2, none⟩ = some (.int .i64 0) ∧ w5.drew.cell? ⟨b, o + k * 2 + 1, none⟩ = some (.int .i64 q) := ⟨r0, r1⟩
          clear hS0 hS5
          go_upto_region 20 with (fail)
          go_region_held3 (fun w' => w'.cell? ⟨b, o + k * 2, none⟩ = some (.int .i64 0) ∧ w'.cell? ⟨b, o + k * 2 + 1, none⟩ = some (.int .i64 q)) (first | (with_reducible assumption) | (with_reducible exact hS6))
            ((go_at_call 32; (with_reducible refine (stop_nil 0 q).mono ?_); rintro e w6 ⟨rfl, rfl⟩))
          clear hS6
          go_wp2_with (first | (go_at_call 16; (with_reducible refine (KU.out _ _ _ _ HK5d.out).mono ?_); rintro _ w6 ⟨rfl, HK6⟩; obtain ⟨y0, y1⟩ := HCel.out w6 (KBel.out _ _ _ _ HK6.out)) | (go_at_call 33; (with_reducible refine (KE.out k _ _ _ HK6.out (by omega)).mono ?_); rintro _ w7 ⟨rfl, HK7⟩; obtain ⟨x0, x1⟩ := HCel.out w7 (KBel.out _ _ _ _ HK7.out)))
          go_ret
          exact ⟨rfl, bl_tr HBW.out (KBel.out _ _ _ _ HK7.out)⟩
        · have hne : st ≠ 0 := hst
          have p1 := (by simpa using hp : (p == 0) = false)
          have p2 : decide (p = 0) = false := decide_eq_false hp
          have p3 : (p != 0) = true := by simpa using hp
          have HKd : Hid (KW (k : Int) st wy wr.drew) := Lib.hid (KB.out _ _ _ _ _ HK.out (ghd (Below.refl _ _)))
          have hS0 : wr.drew.cell? ⟨b, o + k * 2, none⟩ = some (.int .i64 p) ∧ wr.drew.cell? ⟨b, o + k * 2 + 1, none⟩ = some (.int .i64 q) := ⟨g0, g1⟩
          go_upto_region 19 with (fail)
          go_region_held3 (fun w' => w'.cell? ⟨b, o + k * 2, none⟩ = some (.int .i64 p) ∧ w'.cell? ⟨b, o + k * 2 + 1, none⟩ = some (.int .i64 q)) (first | (with_reducible assumption) | (with_reducible exact hS0) | (with_reducible exact hS5))
            ((go_at_call 32; (with_reducible refine (KN.out _ _ _ _ p q HKd.out hst).mono ?_); rintro e w5 ⟨rfl, HK5⟩; obtain ⟨r0, r1⟩ := HCel.out w5 (KBel.out _ _ _ _ HK5.out); have hS5 := And.intro r0 r1))
          have HK5d : Hid (KW (k : Int) st wy w5.drew) := Lib.hid (KB.out _ _ _ _ _ HK5.out (ghd (Below.refl _ _)))
          have hS6 : w5.drew.cell? ⟨b, o + k * 2, none⟩ = some (.int .i64 p) ∧ w5.drew.cell? ⟨b, o + k * 2 + 1, none⟩ = some (.int .i64 q) := ⟨r0, r1⟩
          clear hS0 hS5
          go_upto_region 20 with (fail)
          go_region_held3 (fun w' => w'.cell? ⟨b, o + k * 2, none⟩ = some (.int .i64 p) ∧ w'.cell? ⟨b, o + k * 2 + 1, none⟩ = some (.int .i64 q)) (first | (with_reducible assumption) | (with_reducible exact hS6))
            ((go_at_call 32; (with_reducible refine (stop_nil p q).mono ?_); rintro e w6 ⟨rfl, rfl⟩))
          clear hS6
          go_wp2_with (first | (go_at_call 16; (with_reducible refine (KU.out _ _ _ _ HK5d.out).mono ?_); rintro _ w6 ⟨rfl, HK6⟩; obtain ⟨y0, y1⟩ := HCel.out w6 (KBel.out _ _ _ _ HK6.out)) | (go_at_call 33; (with_reducible refine (KE.out k _ _ _ HK6.out (by omega)).mono ?_); rintro _ w7 ⟨rfl, HK7⟩; obtain ⟨x0, x1⟩ := HCel.out w7 (KBel.out _ _ _ _ HK7.out)))
          go_roundw
          case rel => exact ⟨k + 1, st, wy, by omega, by go_num, by go_num, by go_num, .inr hne, HK7⟩
          case measure => simp [intOf]; omega
    · obtain rfl : k = n := by omega
      have HBr := Lib.hid hBw
      have hcb := bl_blk HC3.out (KBel.out _ _ _ _ HK.out)
      have hcb2 := bl_blk hcb (show Below wr.heap.size wr (wr.alloc (.cells #[.int .i64 0, .int .i64 0, .int .i64 0, .int .i64 0] 68)) by go_grown)
      clear hBw hsw hlt hk
      by_cases h1 : fn = 1
      · subst h1
        by_cases h2 : pc < 0
        · have h2d : decide (pc < 0) = false ∨ True := .inr trivial
          have h2a : ¬ (0 : Int) ≤ pc := by omega
          have h2b : decide ((0 : Int) ≤ pc) = false := decide_eq_false h2a
          have hw : wantI 1 pc = (0, 0, 0, 0) := want_no (by omega)
          clear h2d
          have HC0 : Hid (∀ V, Below wr.heap.size wr V → Calls Try.prog 34 #[.pointer (some ⟨C, 0, none⟩), .int .i64 1, .int .i64 pc] V fun e V' => e = .returned (.agg #[.int .i64 0, .int .i64 0, .int .i64 0, .int .i64 0]) ∧ Below V.heap.size V V') := Lib.hid (fun V hb => by have h := KC.out _ _ _ V (KB.out _ _ _ _ _ HK.out hb); rw [hw] at h; exact h)
          go_upto_region 30 with (go_at_call 16; (with_reducible refine status_nil.mono ?_); rintro _ _ ⟨rfl, rfl⟩)
          refine s30_of (Bx := wr.heap.size) (fun V hb => HC0.out V (Below.trans (B := wr.heap.size) (by go_grown) (hb.mono (by simp)))) ⟨by go_simp, by go_simp, by go_simp, by go_simp⟩ ?_
          intro v144 v145 v146 v147 v148 v149 v150 v151 v152 v153 v154 v155 v156 v157 v158 v159 v160 v161 v162 v163 v164 v165 v166 v167 v168 v169 v170 v171 v172 v173 v174 v175 v176 v177 v178 v179 v180 v181 v182 v183 v184 v185 v186 v187 v188 v189 v190 v191 v192 v193 v194 v195 v196 v197 v198 v199 v200 v201 v202 W9 hb9
          have HB9 : Hid (Below w.heap.size w W9) := Lib.hid (bl_tr HBr.out (Below.trans (B := wr.heap.size) (by go_grown) (hb9.mono (by simp))))
          clear hb9
          go_wp2_with fail
          go_ret
          exact ⟨rfl, HB9.out⟩
        · have h2a : (0 : Int) ≤ pc := by omega
          have h2b : decide ((0 : Int) ≤ pc) = true := decide_eq_true h2a
          by_cases h3 : pc < 3
          · rcases (show pc = 0 ∨ pc = 1 ∨ pc = 2 by omega) with h | h | h
            · subst h
              have cc0 : (wr.alloc (.cells #[.int .i64 0, .int .i64 0, .int .i64 0, .int .i64 0] 68)).cell? ⟨w1.heap.size, 0, none⟩ = some (.int .i64 21) := ro.cel hcb2 0
              have cc1 : (wr.alloc (.cells #[.int .i64 0, .int .i64 0, .int .i64 0, .int .i64 0] 68)).cell? ⟨w1.heap.size, 1, none⟩ = some (.int .i64 0) := ro.cel hcb2 1
              have cc2 : (wr.alloc (.cells #[.int .i64 0, .int .i64 0, .int .i64 0, .int .i64 0] 68)).cell? ⟨w1.heap.size, 2, none⟩ = some (.int .i64 0) := ro.cel hcb2 2
              have cc3 : (wr.alloc (.cells #[.int .i64 0, .int .i64 0, .int .i64 0, .int .i64 0] 68)).cell? ⟨w1.heap.size, 3, none⟩ = some (.int .i64 0) := ro.cel hcb2 3
              have cc4 : (wr.alloc (.cells #[.int .i64 0, .int .i64 0, .int .i64 0, .int .i64 0] 68)).cell? ⟨w1.heap.size, 4, none⟩ = some (.int .i64 1) := ro.cel hcb2 4
              have cc5 : (wr.alloc (.cells #[.int .i64 0, .int .i64 0, .int .i64 0, .int .i64 0] 68)).cell? ⟨w1.heap.size, 5, none⟩ = some (.int .i64 3) := ro.cel hcb2 5
              have cc6 : (wr.alloc (.cells #[.int .i64 0, .int .i64 0, .int .i64 0, .int .i64 0] 68)).cell? ⟨w1.heap.size, 6, none⟩ = some (.int .i64 4) := ro.cel hcb2 6
              have cc7 : (wr.alloc (.cells #[.int .i64 0, .int .i64 0, .int .i64 0, .int .i64 0] 68)).cell? ⟨w1.heap.size, 7, none⟩ = some (.int .i64 0) := ro.cel hcb2 7
              have cc8 : (wr.alloc (.cells #[.int .i64 0, .int .i64 0, .int .i64 0, .int .i64 0] 68)).cell? ⟨w1.heap.size, 8, none⟩ = some (.int .i64 0) := ro.cel hcb2 8
              have cc9 : (wr.alloc (.cells #[.int .i64 0, .int .i64 0, .int .i64 0, .int .i64 0] 68)).cell? ⟨w1.heap.size, 9, none⟩ = some (.int .i64 0) := ro.cel hcb2 9
              have cc10 : (wr.alloc (.cells #[.int .i64 0, .int .i64 0, .int .i64 0, .int .i64 0] 68)).cell? ⟨w1.heap.size, 10, none⟩ = some (.int .i64 0) := ro.cel hcb2 10
              have cc11 : (wr.alloc (.cells #[.int .i64 0, .int .i64 0, .int .i64 0, .int .i64 0] 68)).cell? ⟨w1.heap.size, 11, none⟩ = some (.int .i64 0) := ro.cel hcb2 11
              have HC0 : Hid (∀ V, Below wr.heap.size wr V → Calls Try.prog 34 #[.pointer (some ⟨C, 0, none⟩), .int .i64 1, .int .i64 0] V fun e V' => e = .returned (.agg #[.int .i64 21, .int .i64 0, .int .i64 0, .int .i64 0]) ∧ Below V.heap.size V V') := Lib.hid (fun V hb => by have h := KC.out _ _ _ V (KB.out _ _ _ _ _ HK.out hb); rw [(rfl : wantI 1 0 = (21, 0, 0, 0))] at h; exact h)
              go_upto_region 30 with (go_at_call 16; (with_reducible refine status_nil.mono ?_); rintro _ _ ⟨rfl, rfl⟩)
              refine s30_of (Bx := wr.heap.size) (fun V hb => HC0.out V (Below.trans (B := wr.heap.size) (by go_grown) (hb.mono (by simp)))) ⟨by go_simp, by go_simp, by go_simp, by go_simp⟩ ?_
              intro v144 v145 v146 v147 v148 v149 v150 v151 v152 v153 v154 v155 v156 v157 v158 v159 v160 v161 v162 v163 v164 v165 v166 v167 v168 v169 v170 v171 v172 v173 v174 v175 v176 v177 v178 v179 v180 v181 v182 v183 v184 v185 v186 v187 v188 v189 v190 v191 v192 v193 v194 v195 v196 v197 v198 v199 v200 v201 v202 W9 hb9
              have HB9 : Hid (Below w.heap.size w W9) := Lib.hid (bl_tr HBr.out (Below.trans (B := wr.heap.size) (by go_grown) (hb9.mono (by simp))))
              clear hb9
              go_wp2_with fail
              go_ret
              exact ⟨rfl, HB9.out⟩
            · subst h
              have cc0 : (wr.alloc (.cells #[.int .i64 0, .int .i64 0, .int .i64 0, .int .i64 0] 68)).cell? ⟨w1.heap.size, 0, none⟩ = some (.int .i64 21) := ro.cel hcb2 0
              have cc1 : (wr.alloc (.cells #[.int .i64 0, .int .i64 0, .int .i64 0, .int .i64 0] 68)).cell? ⟨w1.heap.size, 1, none⟩ = some (.int .i64 0) := ro.cel hcb2 1
              have cc2 : (wr.alloc (.cells #[.int .i64 0, .int .i64 0, .int .i64 0, .int .i64 0] 68)).cell? ⟨w1.heap.size, 2, none⟩ = some (.int .i64 0) := ro.cel hcb2 2
              have cc3 : (wr.alloc (.cells #[.int .i64 0, .int .i64 0, .int .i64 0, .int .i64 0] 68)).cell? ⟨w1.heap.size, 3, none⟩ = some (.int .i64 0) := ro.cel hcb2 3
              have cc4 : (wr.alloc (.cells #[.int .i64 0, .int .i64 0, .int .i64 0, .int .i64 0] 68)).cell? ⟨w1.heap.size, 4, none⟩ = some (.int .i64 1) := ro.cel hcb2 4
              have cc5 : (wr.alloc (.cells #[.int .i64 0, .int .i64 0, .int .i64 0, .int .i64 0] 68)).cell? ⟨w1.heap.size, 5, none⟩ = some (.int .i64 3) := ro.cel hcb2 5
              have cc6 : (wr.alloc (.cells #[.int .i64 0, .int .i64 0, .int .i64 0, .int .i64 0] 68)).cell? ⟨w1.heap.size, 6, none⟩ = some (.int .i64 4) := ro.cel hcb2 6
              have cc7 : (wr.alloc (.cells #[.int .i64 0, .int .i64 0, .int .i64 0, .int .i64 0] 68)).cell? ⟨w1.heap.size, 7, none⟩ = some (.int .i64 0) := ro.cel hcb2 7
              have cc8 : (wr.alloc (.cells #[.int .i64 0, .int .i64 0, .int .i64 0, .int .i64 0] 68)).cell? ⟨w1.heap.size, 8, none⟩ = some (.int .i64 0) := ro.cel hcb2 8
              have cc9 : (wr.alloc (.cells #[.int .i64 0, .int .i64 0, .int .i64 0, .int .i64 0] 68)).cell? ⟨w1.heap.size, 9, none⟩ = some (.int .i64 0) := ro.cel hcb2 9
              have cc10 : (wr.alloc (.cells #[.int .i64 0, .int .i64 0, .int .i64 0, .int .i64 0] 68)).cell? ⟨w1.heap.size, 10, none⟩ = some (.int .i64 0) := ro.cel hcb2 10
              have cc11 : (wr.alloc (.cells #[.int .i64 0, .int .i64 0, .int .i64 0, .int .i64 0] 68)).cell? ⟨w1.heap.size, 11, none⟩ = some (.int .i64 0) := ro.cel hcb2 11
              have HC0 : Hid (∀ V, Below wr.heap.size wr V → Calls Try.prog 34 #[.pointer (some ⟨C, 0, none⟩), .int .i64 1, .int .i64 1] V fun e V' => e = .returned (.agg #[.int .i64 1, .int .i64 3, .int .i64 4, .int .i64 0]) ∧ Below V.heap.size V V') := Lib.hid (fun V hb => by have h := KC.out _ _ _ V (KB.out _ _ _ _ _ HK.out hb); rw [(rfl : wantI 1 1 = (1, 3, 4, 0))] at h; exact h)
              go_upto_region 30 with (go_at_call 16; (with_reducible refine status_nil.mono ?_); rintro _ _ ⟨rfl, rfl⟩)
              refine s30_of (Bx := wr.heap.size) (fun V hb => HC0.out V (Below.trans (B := wr.heap.size) (by go_grown) (hb.mono (by simp)))) ⟨by go_simp, by go_simp, by go_simp, by go_simp⟩ ?_
              intro v144 v145 v146 v147 v148 v149 v150 v151 v152 v153 v154 v155 v156 v157 v158 v159 v160 v161 v162 v163 v164 v165 v166 v167 v168 v169 v170 v171 v172 v173 v174 v175 v176 v177 v178 v179 v180 v181 v182 v183 v184 v185 v186 v187 v188 v189 v190 v191 v192 v193 v194 v195 v196 v197 v198 v199 v200 v201 v202 W9 hb9
              have HB9 : Hid (Below w.heap.size w W9) := Lib.hid (bl_tr HBr.out (Below.trans (B := wr.heap.size) (by go_grown) (hb9.mono (by simp))))
              clear hb9
              go_wp2_with fail
              go_ret
              exact ⟨rfl, HB9.out⟩
            · subst h
              have cc0 : (wr.alloc (.cells #[.int .i64 0, .int .i64 0, .int .i64 0, .int .i64 0] 68)).cell? ⟨w1.heap.size, 0, none⟩ = some (.int .i64 21) := ro.cel hcb2 0
              have cc1 : (wr.alloc (.cells #[.int .i64 0, .int .i64 0, .int .i64 0, .int .i64 0] 68)).cell? ⟨w1.heap.size, 1, none⟩ = some (.int .i64 0) := ro.cel hcb2 1
              have cc2 : (wr.alloc (.cells #[.int .i64 0, .int .i64 0, .int .i64 0, .int .i64 0] 68)).cell? ⟨w1.heap.size, 2, none⟩ = some (.int .i64 0) := ro.cel hcb2 2
              have cc3 : (wr.alloc (.cells #[.int .i64 0, .int .i64 0, .int .i64 0, .int .i64 0] 68)).cell? ⟨w1.heap.size, 3, none⟩ = some (.int .i64 0) := ro.cel hcb2 3
              have cc4 : (wr.alloc (.cells #[.int .i64 0, .int .i64 0, .int .i64 0, .int .i64 0] 68)).cell? ⟨w1.heap.size, 4, none⟩ = some (.int .i64 1) := ro.cel hcb2 4
              have cc5 : (wr.alloc (.cells #[.int .i64 0, .int .i64 0, .int .i64 0, .int .i64 0] 68)).cell? ⟨w1.heap.size, 5, none⟩ = some (.int .i64 3) := ro.cel hcb2 5
              have cc6 : (wr.alloc (.cells #[.int .i64 0, .int .i64 0, .int .i64 0, .int .i64 0] 68)).cell? ⟨w1.heap.size, 6, none⟩ = some (.int .i64 4) := ro.cel hcb2 6
              have cc7 : (wr.alloc (.cells #[.int .i64 0, .int .i64 0, .int .i64 0, .int .i64 0] 68)).cell? ⟨w1.heap.size, 7, none⟩ = some (.int .i64 0) := ro.cel hcb2 7
              have cc8 : (wr.alloc (.cells #[.int .i64 0, .int .i64 0, .int .i64 0, .int .i64 0] 68)).cell? ⟨w1.heap.size, 8, none⟩ = some (.int .i64 0) := ro.cel hcb2 8
              have cc9 : (wr.alloc (.cells #[.int .i64 0, .int .i64 0, .int .i64 0, .int .i64 0] 68)).cell? ⟨w1.heap.size, 9, none⟩ = some (.int .i64 0) := ro.cel hcb2 9
              have cc10 : (wr.alloc (.cells #[.int .i64 0, .int .i64 0, .int .i64 0, .int .i64 0] 68)).cell? ⟨w1.heap.size, 10, none⟩ = some (.int .i64 0) := ro.cel hcb2 10
              have cc11 : (wr.alloc (.cells #[.int .i64 0, .int .i64 0, .int .i64 0, .int .i64 0] 68)).cell? ⟨w1.heap.size, 11, none⟩ = some (.int .i64 0) := ro.cel hcb2 11
              have HC0 : Hid (∀ V, Below wr.heap.size wr V → Calls Try.prog 34 #[.pointer (some ⟨C, 0, none⟩), .int .i64 1, .int .i64 2] V fun e V' => e = .returned (.agg #[.int .i64 0, .int .i64 0, .int .i64 0, .int .i64 0]) ∧ Below V.heap.size V V') := Lib.hid (fun V hb => by have h := KC.out _ _ _ V (KB.out _ _ _ _ _ HK.out hb); rw [(rfl : wantI 1 2 = (0, 0, 0, 0))] at h; exact h)
              go_upto_region 30 with (go_at_call 16; (with_reducible refine status_nil.mono ?_); rintro _ _ ⟨rfl, rfl⟩)
              refine s30_of (Bx := wr.heap.size) (fun V hb => HC0.out V (Below.trans (B := wr.heap.size) (by go_grown) (hb.mono (by simp)))) ⟨by go_simp, by go_simp, by go_simp, by go_simp⟩ ?_
              intro v144 v145 v146 v147 v148 v149 v150 v151 v152 v153 v154 v155 v156 v157 v158 v159 v160 v161 v162 v163 v164 v165 v166 v167 v168 v169 v170 v171 v172 v173 v174 v175 v176 v177 v178 v179 v180 v181 v182 v183 v184 v185 v186 v187 v188 v189 v190 v191 v192 v193 v194 v195 v196 v197 v198 v199 v200 v201 v202 W9 hb9
              have HB9 : Hid (Below w.heap.size w W9) := Lib.hid (bl_tr HBr.out (Below.trans (B := wr.heap.size) (by go_grown) (hb9.mono (by simp))))
              clear hb9
              go_wp2_with fail
              go_ret
              exact ⟨rfl, HB9.out⟩
          · have h3b : decide (pc < 3) = false := decide_eq_false h3
            have hw : wantI 1 pc = (0, 0, 0, 0) := want_no (by omega)
            have HC0 : Hid (∀ V, Below wr.heap.size wr V → Calls Try.prog 34 #[.pointer (some ⟨C, 0, none⟩), .int .i64 1, .int .i64 pc] V fun e V' => e = .returned (.agg #[.int .i64 0, .int .i64 0, .int .i64 0, .int .i64 0]) ∧ Below V.heap.size V V') := Lib.hid (fun V hb => by have h := KC.out _ _ _ V (KB.out _ _ _ _ _ HK.out hb); rw [hw] at h; exact h)
            go_upto_region 30 with (go_at_call 16; (with_reducible refine status_nil.mono ?_); rintro _ _ ⟨rfl, rfl⟩)
            refine s30_of (Bx := wr.heap.size) (fun V hb => HC0.out V (Below.trans (B := wr.heap.size) (by go_grown) (hb.mono (by simp)))) ⟨by go_simp, by go_simp, by go_simp, by go_simp⟩ ?_
            intro v144 v145 v146 v147 v148 v149 v150 v151 v152 v153 v154 v155 v156 v157 v158 v159 v160 v161 v162 v163 v164 v165 v166 v167 v168 v169 v170 v171 v172 v173 v174 v175 v176 v177 v178 v179 v180 v181 v182 v183 v184 v185 v186 v187 v188 v189 v190 v191 v192 v193 v194 v195 v196 v197 v198 v199 v200 v201 v202 W9 hb9
            have HB9 : Hid (Below w.heap.size w W9) := Lib.hid (bl_tr HBr.out (Below.trans (B := wr.heap.size) (by go_grown) (hb9.mono (by simp))))
            clear hb9
            go_wp2_with fail
            go_ret
            exact ⟨rfl, HB9.out⟩
      · have h1a : (fn == 1) = false := by simpa using h1
        have h1b : decide (fn = 1) = false := decide_eq_false h1
        have hw : wantI fn pc = (0, 0, 0, 0) := want_no (fun h => h1 h.1)
        have HC0 : Hid (∀ V, Below wr.heap.size wr V → Calls Try.prog 34 #[.pointer (some ⟨C, 0, none⟩), .int .i64 fn, .int .i64 pc] V fun e V' => e = .returned (.agg #[.int .i64 0, .int .i64 0, .int .i64 0, .int .i64 0]) ∧ Below V.heap.size V V') := Lib.hid (fun V hb => by have h := KC.out _ _ _ V (KB.out _ _ _ _ _ HK.out hb); rw [hw] at h; exact h)
        go_upto_region 30 with (go_at_call 16; (with_reducible refine status_nil.mono ?_); rintro _ _ ⟨rfl, rfl⟩)
        refine s30_of (Bx := wr.heap.size) (fun V hb => HC0.out V (Below.trans (B := wr.heap.size) (by go_grown) (hb.mono (by simp)))) ⟨by go_simp, by go_simp, by go_simp, by go_simp⟩ ?_
        intro v144 v145 v146 v147 v148 v149 v150 v151 v152 v153 v154 v155 v156 v157 v158 v159 v160 v161 v162 v163 v164 v165 v166 v167 v168 v169 v170 v171 v172 v173 v174 v175 v176 v177 v178 v179 v180 v181 v182 v183 v184 v185 v186 v187 v188 v189 v190 v191 v192 v193 v194 v195 v196 v197 v198 v199 v200 v201 v202 W9 hb9
        have HB9 : Hid (Below w.heap.size w W9) := Lib.hid (bl_tr HBr.out (Below.trans (B := wr.heap.size) (by go_grown) (hb9.mono (by simp))))
        clear hb9
        go_wp2_with fail
        go_ret
        exact ⟨rfl, HB9.out⟩
theorem walk (a0 : Option Addr) (len0 cap0 : Nat) (z0 : Nat → Nat → Int) (a1 : Int) (a2 : Int) (w : World) (w0 : IsGrid [.i64, .i64] w a0 len0 cap0 z0) (w1 : (Lit.int .i64 a1).wf = true) (w2 : (Lit.int .i64 a2).wf = true) :
    Calls Try.prog 5 #[.slice a0 len0 cap0, .int .i64 a1, .int .i64 a2] w fun e w' => e = .returned (.bool true) ∧ Below w.heap.size w w' := core a0 len0 cap0 z0 a1 a2 w (grd_of w0)
end Go.Proofs.Ytbmndjedgedbdaa.coreStops
