/- Whatever is taken and given: the law ArenaDoes answers true. No condition. -/
import Derived.Test.YtajmmglfdinahaaRfE
import Derived.Test.YtajmmglfdinahaaGrids
import Derived.Deep.RegionHeld3
import Derived.Deep.DrawnRows
namespace Go.Proofs.Ytajmmglfdinahaa.arenaDoes
open Go.ChangeShapes Go.WideShapes Go.ChangeAt Go.RowKit Go.Proofs.Ytajmmglfdinahaa.mo Go.Proofs.Ytajmmglfdinahaa.rf
open Go.Proofs.Ytajmmglfdinahaa.ar (AS Same ups heldB heldB_nat ups_s ups_le Gd works10)
set_option linter.unusedVariables false
set_option linter.unusedSimpArgs false
theorem ris_ups (tk : List Int) (hs : List Bool) (h : ∀ x, hasB tk x = heldB hs x) : ∀ q, ris tk q = ups hs q := by
  intro q
  induction q with
  | zero => rfl
  | succ q ih =>
    have e := heldB_nat hs (q + 1)
    push_cast at e
    rw [ups_s]
    unfold ris
    rw [h, e, ih]
theorem ups_stop (hs : List Bool) : ∀ d, ups hs (hs.length + d) = ups hs hs.length := by
  intro d
  induction d with
  | zero => rfl
  | succ d ih =>
    rw [show hs.length + (d + 1) = hs.length + d + 1 by omega, ups_s, ih, List.getD_eq_getElem?_getD, List.getElem?_eq_none (by omega)]
    simp
set_option maxRecDepth 20000 in
set_option maxHeartbeats 4000000 in
theorem core (a0 m1 : Int) (M : Nat) (a1 : Option Addr) (len cap : Nat) (z : Nat → Nat → Int) (x c : Nat) (w : World) (hmx : min (max a0 0) 1000 = (M : Int)) (hl : len ≤ 100) (hx : x ≤ 255) (hc : max (x : Int) 1 = (c : Int))
    (hz : ∀ k, k < len → ∃ b off, a1 = some ⟨b, off, none⟩ ∧ b < w.heap.size ∧ w.cell? ⟨b, off + k * 2, none⟩ = some (.int .i64 (z k 0)) ∧ w.cell? ⟨b, off + k * 2 + 1, none⟩ = some (.int .i64 (z k 1))) :
    Calls Try.prog 3 #[.int .i64 a0, .slice a1 len cap, .int .u8 (x : Int)] w fun e w' => e = .returned (.bool true) ∧ Below w.heap.size w w' := by
  have hd5 : decide (100 < len) = false := by simp; omega
  have hd6 : ¬ (100 : Int) < (len : Int) := by omega
  have hd7 : IntKind.i64.wrap (x : Int) = (x : Int) := by rw [IntKind.wrap_i64]; omega
  have HZ := Lib.hid hz
  have HMX := Lib.hid hmx
  have HC := Lib.hid hc
  clear hz hmx hc
  go_enter Try.func3, Try.ntmps3
  go_wp2_with fail
  refine (works10 w).mono ?_
  rintro e w1 ⟨rfl, hb1⟩
  have hs1 := hb1.size
  have HB1 := Lib.hid hb1
  clear hb1
  go_wp2_with fail
  refine (Go.Proofs.Ytajmmglfdinahaa.ar.new_of (fun _ => False) w.heap.size a0 (max a0 0) (M : Int) w1 (by split <;> omega) (by rw [← HMX.out]; split <;> omega) hs1 (fun _ h => h.elim)).mono ?_
  rintro e w2 ⟨rfl, hA, hb2⟩
  have HA := Lib.hid hA
  have HB2 := Lib.hid hb2
  clear hA hb2
  go_wp2_with fail
  refine (refnew_of a0 (M : Int) w2 HMX.out).mono ?_
  rintro e w3 ⟨rfl, hR, hb3⟩
  have hA2 := HA.out.lt
  have hSt : Hid (St w w1.heap.size w2.heap.size M 0 w3) := by
    refine Lib.hid ⟨_, _, _, _, [], [], [], 0, ⟨HA.out.below hb3, hR, hA2, by simp [Value.ownBlock], by simp [Value.ownBlock], by simp [Value.ownBlock], by simp [Value.ownBlock], ?_⟩, Pu.nil M, by simp, by simp, by simp⟩
    exact (HB1.out.trans (HB2.out.mono hs1)).trans (hb3.mono (Nat.le_trans hs1 HB2.out.size))
  obtain ⟨A, hAe⟩ : ∃ A, w1.heap.size = A := ⟨_, rfl⟩
  obtain ⟨N, hNe⟩ : ∃ N, w2.heap.size = N := ⟨_, rfl⟩
  rw [hAe, hNe] at hSt
  rw [hAe, hNe]
  clear hR hb3 hA2 HA HB1 HB2 hs1 hAe hNe
  go_wp2_with fail
  go_loopw [10] (fun i wr => ∃ k : Nat, k ≤ len ∧ i = .int .i64 (k : Int) ∧ Hid (St w A N M k wr)) (fun i _ => len - (intOf i).toNat)
  case atStart => exact ⟨0, by omega, rfl, hSt⟩
  case round =>
    clear hSt
    obtain ⟨k, hk, rfl, HS⟩ := hrel
    by_cases hlt : k < len
    · obtain ⟨b, off, rfl, hbl, k0, k1⟩ := HZ.out k hlt
      have hb0 := HS.out.b
      have hbl2 : b < wr.heap.size := Nat.lt_of_lt_of_le hbl hb0.size
      replace k0 := (hb0.cell (p := ⟨b, off + k * 2, none⟩) hbl).trans k0
      generalize z k 0 = y at *
      generalize z k 1 = n at *
      have HKn : Hid (∀ W, Below w.heap.size w W → W.cell? ⟨b, off + k * 2 + 1, none⟩ = some (.int .i64 n)) := Lib.hid fun W hb => (hb.cell (p := ⟨b, off + k * 2 + 1, none⟩) hbl).trans k1
      have hbr := Lib.hid hb0
      have kn := HKn.out wr hb0
      clear k1 hb0
      by_cases hy : y < 3
      · obtain ⟨u, ok, Mid, C1, C2⟩ := take_pair HS.out (by omega)
        have hok : (ok != ok) = false := by simp
        clear kn HS
        go_wp2_with fail
        refine C1.out.mono ?_
        rintro e w5 ⟨rfl, hm⟩
        have HM := Lib.hid hm
        clear hm k0
        go_wp2_with fail
        refine (C2.out _ HM.out).mono ?_
        rintro e w6 ⟨rfl, HS⟩
        clear C1 C2 HM
        go_wp2_with fail
        refine (Go.Proofs.Ytajmmglfdinahaa.ar.take_nil _).mono ?_
        rintro e w7 ⟨rfl, hw⟩
        subst hw
        go_wp2_with fail
        obtain ⟨hv, bv, vb, vt, hs, bk, tk, pk, hr⟩ := HS.out
        have kn := HKn.out _ hr.c.b
        obtain ⟨d0, d1, d2, d3, d4, df⟩ := hr.c.r.cells
        have hvt := hr.c.r.t
        obtain ⟨at_, ct, hvt, _⟩ := hr.c.r.t
        subst hvt
        have h1 := hr.t1
        have h3 := hr.t3
        obtain ⟨u, hu⟩ : ∃ u, tk.length = u := ⟨_, rfl⟩
        have hcnt : hs.count true = u := by rw [← hr.p.len]; exact hu
        obtain ⟨bb, hbb⟩ : ∃ bb, heldB hs n = bb := ⟨_, rfl⟩
        have hbb2 : hasB tk n = bb := by rw [hr.p.mem]; exact hbb
        have CU : Hid (∀ W, Below w6.heap.size w6 W → Calls Try.prog 18 #[.pointer (some ⟨A, 0, none⟩)] W fun e W' => e = .returned (.int .i64 (u : Int)) ∧ Below W.heap.size W W') := Lib.hid fun W hb => by have := Go.Proofs.Ytajmmglfdinahaa.ar.used_of _ _ _ _ _ _ _ hs bk W (by omega) (hr.c.below hb).a; rw [hcnt] at this; exact this
        have CP : Hid (∀ W, Below w6.heap.size w6 W → Calls Try.prog 19 #[.pointer (some ⟨A, 0, none⟩)] W fun e W' => e = .returned (.int .i64 pk) ∧ W = W') := Lib.hid fun W hb => Go.Proofs.Ytajmmglfdinahaa.ar.peak_of W (hr.c.below hb).a
        have CH : Hid (∀ W, Below w6.heap.size w6 W → Calls Try.prog 20 #[.pointer (some ⟨A, 0, none⟩), .int .i64 n] W fun e W' => e = .returned (.bool bb) ∧ W = W') := Lib.hid fun W hb => by have := Go.Proofs.Ytajmmglfdinahaa.ar.held_of W n (hr.c.below hb).a (by omega); rw [hbb] at this; exact this
        have CHas : Hid (∀ W, Below w6.heap.size w6 W → Calls Try.prog 21 #[.slice at_ u ct, .int .i64 n] W fun e W' => e = .returned (.bool bb) ∧ W' = W) := Lib.hid fun W hb => by have := has_of _ tk n W (hr.c.r.below hb).t (by omega); rw [hbb2, hu] at this; exact this
        rw [hu] at d2
        have HK : Hid (∀ W, Below w6.heap.size w6 W → Below w6.heap.size w6 W ∧ W.cell? ⟨N, 2, none⟩ = some (.slice at_ u ct) ∧ W.cell? ⟨N, 4, none⟩ = some (.int .i64 pk) ∧ W.cell? ⟨b, off + k * 2 + 1, none⟩ = some (.int .i64 n)) := Lib.hid fun W hb => ⟨hb, (hb.cell (p := ⟨N, 2, none⟩) hr.c.r.ltN).trans d2, (hb.cell (p := ⟨N, 4, none⟩) hr.c.r.ltN).trans d4, (hb.cell (p := ⟨b, off + k * 2 + 1, none⟩) (World.block_lt_of_cell? _ _ kn)).trans kn⟩
        have hun : ((u : Int) != (u : Int)) = false := by simp
        have hpn : (pk != pk) = false := by simp
        have hbbn : (bb != bb) = false := by simp
        clear hr d0 d1 d2 d3 d4 df kn hu hcnt hbb hbb2 h1 h3 hok
        go_region_held3 (fun w' => Below w6.heap.size w6 w' ∧ w'.cell? ⟨N, 2, none⟩ = some (.slice at_ u ct) ∧ w'.cell? ⟨N, 4, none⟩ = some (.int .i64 pk) ∧ w'.cell? ⟨b, off + k * 2 + 1, none⟩ = some (.int .i64 n))
          (first | (with_reducible assumption) | exact HK.out _ (Below.refl _ _) | exact HK.out _ hb8 | (refine HK.out _ ?_; go_grown; done))
          (first
            | (go_at_call 20; (with_reducible refine (Go.Proofs.Ytajmmglfdinahaa.ar.held_nil _ n).mono ?_); rintro e w9 ⟨rfl, hw⟩; subst hw)
            | (go_at_call 21; (with_reducible refine (CHas.out _ hb8).mono ?_); rintro e w9 ⟨rfl, hw⟩; subst hw)
            | (go_at_call 19; (with_reducible refine (CP.out _ hb8).mono ?_); rintro e w9 ⟨rfl, hw⟩; subst hw)
            | (go_at_call 20; (with_reducible refine (CH.out _ hb8).mono ?_); rintro e w9 ⟨rfl, hw⟩; subst hw)
            | (go_at_call 18; (with_reducible refine (CU.out _ ?_).mono ?_); (focus (go_grown; done)); rintro e w8 ⟨rfl, hb⟩; have hb8 : Below w6.heap.size w6 w8 := btr (by go_grown) hb))
        all_goals
          have HS8 := Lib.hid (HS.out.below hb8)
          clear HS hb8 hb CU CP CH CHas HK
          go_wp2_with fail
          go_roundw
          case rel => exact ⟨k + 1, by omega, by go_num, HS8⟩
          case measure => simp [intOf]; omega
      · obtain ⟨ok, Mid, CG, CB, CR⟩ := give_pair n HS.out (by omega)
        go_wp2_with fail
        clear k0
        have hok : (ok != ok) = false := by simp
        go_region_held3 (fun w' => w'.cell? ⟨b, off + k * 2 + 1, none⟩ = some (.int .i64 n))
          (first | (with_reducible assumption) | exact kn | exact HKn.out _ hb6 | exact HKn.out _ hb5 | (refine HKn.out _ (hbr.out.trans (Below.mono ?_ hbr.out.size)); go_grown; done))
          (first
            | (go_at_call 16; (with_reducible refine (Go.Proofs.Ytajmmglfdinahaa.ar.give_nil _ n).mono ?_); rintro e w7 ⟨rfl, hw⟩; subst hw)
            | (go_at_call 17; (with_reducible refine (CR.out _ hm5).mono ?_); rintro e w6 ⟨rfl, HS6⟩; have hb6 := HS6.out.b)
            | (go_at_call 16; (with_reducible refine (CG.out _ ?_).mono ?_); (focus (go_grown; done)); rintro e w5 ⟨rfl, hm5⟩; have hb5 := CB.out _ hm5))
        all_goals
          clear HS
          have HS := HS6
          clear HS6 hb5 hb6 hm5 CG CB CR kn
          go_wp2_with fail
          obtain ⟨hv, bv, vb, vt, hs, bk, tk, pk, hr⟩ := HS.out
          have kn := HKn.out _ hr.c.b
          obtain ⟨d0, d1, d2, d3, d4, df⟩ := hr.c.r.cells
          have hvt := hr.c.r.t
          obtain ⟨at_, ct, hvt, _⟩ := hr.c.r.t
          subst hvt
          have h1 := hr.t1
          have h3 := hr.t3
          obtain ⟨u, hu⟩ : ∃ u, tk.length = u := ⟨_, rfl⟩
          have hcnt : hs.count true = u := by rw [← hr.p.len]; exact hu
          obtain ⟨bb, hbb⟩ : ∃ bb, heldB hs n = bb := ⟨_, rfl⟩
          have hbb2 : hasB tk n = bb := by rw [hr.p.mem]; exact hbb
          have CU : Hid (∀ W, Below w6.heap.size w6 W → Calls Try.prog 18 #[.pointer (some ⟨A, 0, none⟩)] W fun e W' => e = .returned (.int .i64 (u : Int)) ∧ Below W.heap.size W W') := Lib.hid fun W hb => by have := Go.Proofs.Ytajmmglfdinahaa.ar.used_of _ _ _ _ _ _ _ hs bk W (by omega) (hr.c.below hb).a; rw [hcnt] at this; exact this
          have CP : Hid (∀ W, Below w6.heap.size w6 W → Calls Try.prog 19 #[.pointer (some ⟨A, 0, none⟩)] W fun e W' => e = .returned (.int .i64 pk) ∧ W = W') := Lib.hid fun W hb => Go.Proofs.Ytajmmglfdinahaa.ar.peak_of W (hr.c.below hb).a
          have CH : Hid (∀ W, Below w6.heap.size w6 W → Calls Try.prog 20 #[.pointer (some ⟨A, 0, none⟩), .int .i64 n] W fun e W' => e = .returned (.bool bb) ∧ W = W') := Lib.hid fun W hb => by have := Go.Proofs.Ytajmmglfdinahaa.ar.held_of W n (hr.c.below hb).a (by omega); rw [hbb] at this; exact this
          have CHas : Hid (∀ W, Below w6.heap.size w6 W → Calls Try.prog 21 #[.slice at_ u ct, .int .i64 n] W fun e W' => e = .returned (.bool bb) ∧ W' = W) := Lib.hid fun W hb => by have := has_of _ tk n W (hr.c.r.below hb).t (by omega); rw [hbb2, hu] at this; exact this
          rw [hu] at d2
          have HK : Hid (∀ W, Below w6.heap.size w6 W → Below w6.heap.size w6 W ∧ W.cell? ⟨N, 2, none⟩ = some (.slice at_ u ct) ∧ W.cell? ⟨N, 4, none⟩ = some (.int .i64 pk) ∧ W.cell? ⟨b, off + k * 2 + 1, none⟩ = some (.int .i64 n)) := Lib.hid fun W hb => ⟨hb, (hb.cell (p := ⟨N, 2, none⟩) hr.c.r.ltN).trans d2, (hb.cell (p := ⟨N, 4, none⟩) hr.c.r.ltN).trans d4, (hb.cell (p := ⟨b, off + k * 2 + 1, none⟩) (World.block_lt_of_cell? _ _ kn)).trans kn⟩
          have hun : ((u : Int) != (u : Int)) = false := by simp
          have hpn : (pk != pk) = false := by simp
          have hbbn : (bb != bb) = false := by simp
          clear hr d0 d1 d2 d3 d4 df kn hu hcnt hbb hbb2 h1 h3 hok
          go_region_held3 (fun w' => Below w6.heap.size w6 w' ∧ w'.cell? ⟨N, 2, none⟩ = some (.slice at_ u ct) ∧ w'.cell? ⟨N, 4, none⟩ = some (.int .i64 pk) ∧ w'.cell? ⟨b, off + k * 2 + 1, none⟩ = some (.int .i64 n))
            (first | (with_reducible assumption) | exact HK.out _ (Below.refl _ _) | exact HK.out _ hb8 | (refine HK.out _ ?_; go_grown; done))
            (first
              | (go_at_call 20; (with_reducible refine (Go.Proofs.Ytajmmglfdinahaa.ar.held_nil _ n).mono ?_); rintro e w9 ⟨rfl, hw⟩; subst hw)
              | (go_at_call 21; (with_reducible refine (CHas.out _ hb8).mono ?_); rintro e w9 ⟨rfl, hw⟩; subst hw)
              | (go_at_call 19; (with_reducible refine (CP.out _ hb8).mono ?_); rintro e w9 ⟨rfl, hw⟩; subst hw)
              | (go_at_call 20; (with_reducible refine (CH.out _ hb8).mono ?_); rintro e w9 ⟨rfl, hw⟩; subst hw)
              | (go_at_call 18; (with_reducible refine (CU.out _ ?_).mono ?_); (focus (go_grown; done)); rintro e w8 ⟨rfl, hb⟩; have hb8 : Below w6.heap.size w6 w8 := btr (by go_grown) hb))
          all_goals
            have HS8 := Lib.hid (HS.out.below hb8)
            clear HS hb8 hb CU CP CH CHas HK
            go_wp2_with fail
            go_roundw
            case rel => exact ⟨k + 1, by omega, by go_num, HS8⟩
            case measure => simp [intOf]; omega
    · obtain rfl : k = len := by omega
      obtain ⟨hv, bv, vb, vt, hs, bk, tk, pk, hr⟩ := HS.out
      have hle := hr.p.gd.le
      have ht1 := hr.t1
      have ht3 := hr.t3
      obtain ⟨q, hq⟩ : ∃ q : Nat, min (M : Int) 100 = (q : Int) := ⟨min M 100, by omega⟩
      have hqf : (if (100 : Int) < (M : Int) then (100 : Int) else (M : Int)) = (q : Int) := by rw [← hq]; split <;> omega
      have hqr : ris tk q = ups hs hs.length := by
        rw [ris_ups tk hs hr.p.mem]
        obtain ⟨d, hd⟩ : ∃ d, q = hs.length + d := ⟨q - hs.length, by omega⟩
        rw [hd, ups_stop]
      have hlu : (ups hs hs.length).length ≤ 100 := by have := ups_le hs hs.length; omega
      obtain ⟨us, hus⟩ : ∃ us, ups hs hs.length = us := ⟨_, rfl⟩
      rw [hus] at hqr hlu
      have hcc := HC.out
      have CA : Hid (∀ W, Below wr.heap.size wr W → Calls Try.prog 24 #[.pointer (some ⟨A, 0, none⟩), .int .i64 2000] W (AllPost us W)) := Lib.hid fun W hb => by have := all10_of A _ 2000 _ _ _ 2000 _ _ hs bk W (hr.c.below hb).a (by omega) (by decide); rw [hus, List.take_of_length_le (by omega)] at this; exact this
      have CS : Hid (∀ W, Below wr.heap.size wr W → Calls Try.prog 24 #[.pointer (some ⟨A, 0, none⟩), .int .i64 (x : Int)] W (AllPost (us.take c) W)) := Lib.hid fun W hb => by have := all10_of A _ c _ _ _ (x : Int) _ _ hs bk W (hr.c.below hb).a (by omega) hcc; rw [hus] at this; exact this
      obtain ⟨d0, d1, d2, d3, d4, df⟩ := hr.c.r.cells
      have HK : Hid (∀ W, Below wr.heap.size wr W → Below wr.heap.size wr W ∧ W.cell? ⟨N, 0, none⟩ = some (.int .i64 (M : Int)) ∧ W.cell? ⟨N, 2, none⟩ = some vt) := Lib.hid fun W hb => ⟨hb, (hb.cell (p := ⟨N, 0, none⟩) hr.c.r.ltN).trans d0, (hb.cell (p := ⟨N, 2, none⟩) hr.c.r.ltN).trans d2⟩
      have CR0 : Hid (us = [] → ∀ W, Below wr.heap.size wr W → Calls Try.prog 22 #[vt, .int .i64 (q : Int)] W fun e W' => e = .returned (.slice none 0 0) ∧ Below W.heap.size W W') := Lib.hid fun hu W hb => (rising_of vt tk q W (hr.c.r.below hb).t (by omega) (by omega)).mono fun e W' hh => by
        obtain ⟨v, rfl, _, h2, h3⟩ := hh
        rw [h3 (by rw [hqr]; exact hu)]
        exact ⟨rfl, h2⟩
      have CR1 : Hid (us ≠ [] → ∀ W, Below wr.heap.size wr W → Calls Try.prog 22 #[vt, .int .i64 (q : Int)] W fun e W' => ∃ g cw, e = .returned (.slice (some ⟨g, 0, none⟩) us.length cw) ∧ OI W' W.heap.size (.slice (some ⟨g, 0, none⟩) us.length cw) us ∧ us.length ≤ cw ∧ Below W.heap.size W W') := Lib.hid fun hu W hb => (rising_of vt tk q W (hr.c.r.below hb).t (by omega) (by omega)).mono fun e W' hh => by
        obtain ⟨v, rfl, h1, h2, _⟩ := hh
        rw [hqr] at h1
        obtain ⟨a, cw, rfl, hn, _, hle, hs⟩ := OI.form h1
        cases a with
        | none => exact absurd (hn rfl).1 hu
        | some a =>
          obtain ⟨g, rfl, _⟩ := hs a rfl
          exact ⟨g, cw, rfl, h1, hle, h2⟩
      have hwB := Lib.hid hr.c.b
      obtain ⟨L, hL⟩ : ∃ L, us.length = L := ⟨_, rfl⟩
      obtain ⟨q2, hq2⟩ : ∃ q2 : Nat, min (L : Int) (c : Int) = (q2 : Int) := ⟨min L c, by omega⟩
      have hq2f : (if (c : Int) < (L : Int) then (c : Int) else (L : Int)) = (q2 : Int) := by rw [← hq2]; split <;> omega
      have hxf : (if (x : Int) < 1 then (1 : Int) else (x : Int)) = (c : Int) := by rw [← hcc]; split <;> omega
      have htk : Hid (us.take q2 = us.take c) := Lib.hid (by
        by_cases h : L ≤ c
        · rw [List.take_of_length_le (by omega), List.take_of_length_le (by omega)]
        · rw [show q2 = c by omega])
      have hql : q2 ≤ L := by omega
      have hqi : (q2 : Int) ≤ (L : Int) := by omega
      have hbe : ∀ l : List Int, (l == l) = true := fun l => by simp
      rw [hL] at CR1
      have HL := Lib.hid hL
      clear hr d0 d1 d2 d3 d4 df hqr hus hlu hle ht1 ht3 hL hx HS HZ
      by_cases hue : us = []
      · have CR := Lib.hid (CR0.out hue)
        have hL0 : L = 0 := by rw [← HL.out, hue]; rfl
        have hq20 : q2 = 0 := by omega
        have HUE := Lib.hid hue
        clear hue CR0 CR1
        subst hL0
        subst hq20
        have hm0 : min (0 : Int) (c : Int) = 0 := by omega
        go_wp2_with fail
        go_region_held3 (fun w' => Below wr.heap.size wr w' ∧ w'.cell? ⟨N, 0, none⟩ = some (.int .i64 (M : Int)) ∧ w'.cell? ⟨N, 2, none⟩ = some vt)
          (first | (with_reducible assumption) | exact HK.out _ (Below.refl _ _) | exact HK.out _ hb5 | (refine HK.out _ ?_; go_grown; done))
          (first | (go_at_call 22; (with_reducible refine (CR.out _ ?_).mono ?_); (focus (go_grown; done)); rintro e w5 ⟨rfl, hb⟩; have hb5 : Below wr.heap.size wr w5 := btr (by go_grown) hb))
        all_goals
          have HB5 := Lib.hid hb5
          have VW : Hid (∀ W, View W (.slice none 0 0) us) := Lib.hid fun W => by rw [HUE.out]; exact View.nil W
          have VC : Hid (∀ W, View W (.slice none 0 0) (us.take c)) := Lib.hid fun W => by rw [HUE.out]; simpa using View.nil W
          clear hb5 hb HK CR
          go_wp2_with fail
          go_region_held3 (fun w' => Below w5.heap.size w5 w')
            (first | (with_reducible assumption) | exact Below.refl _ _ | exact hbE | exact hbD | exact hbA | exact hb9 | exact hb8 | exact hb7 | exact hb6 | (go_grown; done))
            (first
              | (go_at_call 24; (with_reducible refine (all10_nil 9 _).mono ?_); rintro e wD ⟨vD, rfl, hoD, hbD'⟩; have hbD : Below w5.heap.size w5 wD := btr hb9 hbD'; obtain ⟨aD, cD, rfl, _⟩ := OI.form hoD)
              | (go_at_call 18; (with_reducible refine (Go.Proofs.Ytajmmglfdinahaa.ar.used10_nil _).mono ?_); rintro e wE ⟨rfl, hbE'⟩; have hbE : Below w5.heap.size w5 wE := btr hbD hbE')
              | (go_at_call 19; (with_reducible refine (Go.Proofs.Ytajmmglfdinahaa.ar.peak_nil _).mono ?_); rintro e wG ⟨rfl, hw⟩; subst hw)
              | (go_at_call 24; (with_reducible refine (CA.out _ ?_).mono ?_); (focus (refine btr HB5.out ?_; go_grown; done)); rintro e w6 ⟨v6, rfl, ho6, hb6'⟩; have hb6 : Below w5.heap.size w5 w6 := btr (by go_grown) hb6'; have V6 := Lib.hid (view_of_own ho6))
              | (go_at_call 23; (with_reducible refine (ints_any _ _ us us _ V6.out (VW.out _)).mono ?_); rintro e w7 ⟨rfl, n7, hw7⟩; have hb7 : Below w5.heap.size w5 w7 := hw7 ▸ below_drewN hb6 n7; rw [hbe]; clear hw7)
              | (go_at_call 24; (with_reducible refine (CS.out _ ?_).mono ?_); (focus exact btr HB5.out hb7); rintro e w8 ⟨v8, rfl, ho8, hb8'⟩; have hb8 : Below w5.heap.size w5 w8 := btr hb7 hb8'; have V8 := Lib.hid (view_of_own ho8))
              | (go_at_call 23; (with_reducible refine (ints_any _ _ (us.take c) (us.take c) _ V8.out (VC.out _)).mono ?_); rintro e w9 ⟨rfl, n9, hw9⟩; have hb9 : Below w5.heap.size w5 w9 := hw9 ▸ below_drewN hb8 n9; rw [hbe]; clear hw9))
          all_goals
            have HF := Lib.hid (hwB.out.trans ((btr HB5.out hbE).mono hwB.out.size))
            go_wp2_with fail
            go_ret
            exact ⟨rfl, HF.out⟩
      · have CR := Lib.hid (CR1.out hue)
        clear CR0 CR1
        go_wp2_with fail
        go_region_held3 (fun w' => Below wr.heap.size wr w' ∧ w'.cell? ⟨N, 0, none⟩ = some (.int .i64 (M : Int)) ∧ w'.cell? ⟨N, 2, none⟩ = some vt)
          (first | (with_reducible assumption) | exact HK.out _ (Below.refl _ _) | exact HK.out _ hb5 | (refine HK.out _ ?_; go_grown; done))
          (first | (go_at_call 22; (with_reducible refine (CR.out _ ?_).mono ?_); (focus (go_grown; done)); rintro e w5 ⟨g, cw, rfl, ho, hcw, hb⟩; have hb5 : Below wr.heap.size wr w5 := btr (by go_grown) hb))
        all_goals
          have HB5 := Lib.hid hb5
          have hqc : (q2 : Int) ≤ (cw : Int) := by omega
          have hq0 : ¬ (q2 : Int) < 0 := by omega
          have hvc := view_of_own (OI.cut ho q2 hql HL.out.symm)
          rw [htk.out] at hvc
          have hvw := view_of_own ho
          have VW : Hid (∀ W, Below w5.heap.size w5 W → View W (.slice (some ⟨g, 0, none⟩) L cw) us) := Lib.hid fun W hb => hvw.below hb
          have VC : Hid (∀ W, Below w5.heap.size w5 W → View W (.slice (some ⟨g, 0, none⟩) q2 cw) (us.take c)) := Lib.hid fun W hb => hvc.below hb
          clear hb5 hb HK CR hvc hvw ho
          go_wp2_with fail
          go_region_held3 (fun w' => Below w5.heap.size w5 w')
            (first | (with_reducible assumption) | exact Below.refl _ _ | exact hbE | exact hbD | exact hbA | exact hb9 | exact hb8 | exact hb7 | exact hb6 | (go_grown; done))
            (first
              | (go_at_call 24; (with_reducible refine (all10_nil 9 _).mono ?_); rintro e wD ⟨vD, rfl, hoD, hbD'⟩; have hbD : Below w5.heap.size w5 wD := btr hb9 hbD'; obtain ⟨aD, cD, rfl, _⟩ := OI.form hoD)
              | (go_at_call 18; (with_reducible refine (Go.Proofs.Ytajmmglfdinahaa.ar.used10_nil _).mono ?_); rintro e wE ⟨rfl, hbE'⟩; have hbE : Below w5.heap.size w5 wE := btr hbD hbE')
              | (go_at_call 19; (with_reducible refine (Go.Proofs.Ytajmmglfdinahaa.ar.peak_nil _).mono ?_); rintro e wG ⟨rfl, hw⟩; subst hw)
              | (go_at_call 24; (with_reducible refine (CA.out _ ?_).mono ?_); (focus (refine btr HB5.out ?_; go_grown; done)); rintro e w6 ⟨v6, rfl, ho6, hb6'⟩; have hb6 : Below w5.heap.size w5 w6 := btr (by go_grown) hb6'; have V6 := Lib.hid (view_of_own ho6))
              | (go_at_call 23; (with_reducible refine (ints_any _ _ us us _ V6.out (VW.out _ (by first | exact hb6 | exact hb6))).mono ?_); rintro e w7 ⟨rfl, n7, hw7⟩; have hb7 : Below w5.heap.size w5 w7 := hw7 ▸ below_drewN hb6 n7; rw [hbe]; clear hw7)
              | (go_at_call 24; (with_reducible refine (CS.out _ ?_).mono ?_); (focus exact btr HB5.out hb7); rintro e w8 ⟨v8, rfl, ho8, hb8'⟩; have hb8 : Below w5.heap.size w5 w8 := btr hb7 hb8'; have V8 := Lib.hid (view_of_own ho8))
              | (go_at_call 23; (with_reducible refine (ints_any _ _ (us.take c) (us.take c) _ V8.out (VC.out _ (by first | exact hb8 | exact hb8))).mono ?_); rintro e w9 ⟨rfl, n9, hw9⟩; have hb9 : Below w5.heap.size w5 w9 := hw9 ▸ below_drewN hb8 n9; rw [hbe]; clear hw9))
          all_goals
            have HF := Lib.hid (hwB.out.trans ((btr HB5.out hbE).mono hwB.out.size))
            go_wp2_with fail
            go_ret
            exact ⟨rfl, HF.out⟩
set_option maxRecDepth 20000 in
theorem walk (a0 : Int) (a1 : Option Addr) (len1 cap1 : Nat) (z1 : Nat → Nat → Int) (a2 : Int) (w : World) (w0 : (Lit.int .i64 a0).wf = true) (w1 : IsGrid [.i64, .i64] w a1 len1 cap1 z1) (w2 : (Lit.int .u8 a2).wf = true) :
    Calls Try.prog 3 #[.int .i64 a0, .slice a1 len1 cap1, .int .u8 a2] w fun e w' => e = .returned (.bool true) ∧ Below w.heap.size w w' := by
  have h0 : 0 ≤ a2 ∧ a2 ≤ 255 := bounds_u8 w2
  obtain ⟨x, rfl⟩ : ∃ x : Nat, a2 = (x : Int) := ⟨a2.toNat, by omega⟩
  by_cases hl : len1 ≤ 100
  · refine core a0 0 (min (max a0 0) 1000).toNat a1 len1 cap1 z1 x (max (x : Int) 1).toNat w (by omega) hl (by omega) (by omega) fun k hk => ?_
    rcases w1.split (by decide) with h | ⟨b, off, rfl, hb, hle, hm, hc⟩
    · omega
    · have c0 := hc k (by omega) 0 .i64 rfl
      have c1 := hc k (by omega) 1 .i64 rfl
      exact ⟨b, off, rfl, hb, c0.1, by rw [Nat.add_assoc]; exact c1.1⟩
  · have hd5 : decide (100 < len1) = true := by simp; omega
    have hd6 : (100 : Int) < (len1 : Int) := by omega
    clear w1
    go_enter Try.func3, Try.ntmps3
    go_wp2_with fail
    refine (works10 w).mono ?_
    rintro e wk ⟨rfl, hbk⟩
    go_wp2_with fail
    go_ret
    exact ⟨rfl, hbk⟩
end Go.Proofs.Ytajmmglfdinahaa.arenaDoes
