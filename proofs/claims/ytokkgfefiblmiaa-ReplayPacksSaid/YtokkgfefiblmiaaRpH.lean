/- The document's Pack (layer 43). -/
import Derived.Test.YtokkgfefiblmiaaRpD
namespace Go.Proofs.Ytokkgfefiblmiaa.rp
open Go.ChangeShapes Go.WideShapes Go.ChangeAt Go.RowKit
open Go.Proofs.Ytokkgfefiblmiaa.bits
set_option linter.unusedVariables false
set_option linter.unusedSimpArgs false
/-- a script in short, or what is wrong. -/
def PkP (w : World) (l : List P2) (e : Ending) (w' : World) : Prop := Below w.heap.size w w' ∧ ((∀ x ∈ l, fit2 x) → e = .returned (.tuple #[.string ⟨(rpk 0 l).toArray⟩, .int .i64 0])) ∧ ((¬ ∀ x ∈ l, fit2 x) → e = .returned (.tuple #[.string ⟨#[]⟩, .int .i64 3]))
theorem conv3 (w : World) (g : Nat) (a b c : UInt8) (h : w.heap[g]? = some (.cells #[.int .u8 (a.toNat : Int), .int .u8 (b.toNat : Int), .int .u8 (c.toNat : Int)] 5 (0, 0))) :
    (convert 63 9 (.slice (some ⟨g, 0, none⟩) 3 3)).run Try.prog w = .ok (.string ⟨#[a, b, c]⟩) w := by
  refine run_convert_bytes_back (P := Try.prog) w 63 9 5 ⟨g, 0, none⟩ 3 [a, b, c] Try.underlying63 Try.underlying5 Try.underlying9 ?_
  intro j hj
  have hadd : (⟨g, 0, none⟩ : Addr).add j = ⟨g, j, none⟩ := by unfold Addr.add; split <;> simp_all
  rw [hadd, ro.cel h]
  match j, hj with
  | 0, _ => rfl
  | 1, _ => rfl
  | 2, _ => rfl
theorem byM (m : Nat) (h : m < 256) : ((UInt8.ofNat m).toNat : Int) = (m : Int) := by
  rw [UInt8.toNat_ofNat', Nat.mod_eq_of_lt (by omega : m < 2 ^ 8)]
theorem drop_at2 {l : List P2} {j : Nat} {o : P2} (h : l[j]? = some o) : l.drop j = o :: l.drop (j + 1) := by
  have hl := (List.getElem?_eq_some_iff.1 h).1
  rw [List.drop_eq_getElem_cons hl]
  congr 1
  rw [List.getElem?_eq_getElem hl] at h
  exact Option.some.inj h
set_option maxRecDepth 20000 in
set_option maxHeartbeats 4000000 in
theorem rpack_v (a : Option Addr) (n c : Nat) (l : List P2) (w : World) (h : RV 2 enQ w (.slice a n c) l) (hn : n ≤ 6000) :
    Calls Try.prog 13 #[.slice a n c] w (PkP w l) := by
  obtain ⟨hnl, hnc, hcm⟩ := h.len
  unfold maxLen at hcm
  have HR0 := Lib.hid h
  have HNL := Lib.hid hnl
  have HY : Hid (∀ w', (∀ x ∈ l, fit2 x) → Below w.heap.size w w' → PkP w l (.returned (.tuple #[.string ⟨(rpk 0 l).toArray⟩, .int .i64 0])) w') := Lib.hid (fun w' h1 h2 => ⟨h2, fun _ => rfl, fun h => absurd h1 h⟩)
  have HNo : Hid (∀ w', (¬ ∀ x ∈ l, fit2 x) → Below w.heap.size w w' → PkP w l (.returned (.tuple #[.string ⟨#[]⟩, .int .i64 3])) w') := Lib.hid (fun w' h1 h2 => ⟨h2, fun h => absurd h h1, fun _ => rfl⟩)
  obtain ⟨P, hP⟩ : ∃ P, PkP w l = P := ⟨_, rfl⟩
  rw [hP] at HY HNo ⊢
  clear hP h hnl
  go_enter Try.func13, Try.ntmps13
  go_wp2_with fail
  go_loopw [6] (fun iv wr => ∃ (k : Nat), k ≤ n ∧ iv = .int .i64 (k : Int) ∧ Hid (∀ x ∈ l.take k, fit2 x) ∧ Hid (wr = w)) (fun iv _ => n - (intOf iv).toNat)
  case atStart => exact ⟨0, Nat.zero_le _, rfl, Lib.hid (fun x hx => by simp at hx), Lib.hid rfl⟩
  case round =>
    obtain ⟨k, hk, rfl, HF, HW⟩ := hrel
    by_cases hlt : k < n
    · obtain rfl := HW.out
      obtain ⟨⟨x1, x2⟩, hx⟩ : ∃ x, l[k]? = some x := ⟨_, List.getElem?_eq_getElem (by rw [← HNL.out]; exact hlt)⟩
      obtain ⟨b, f, rfl, hbl, c0, c1⟩ := RV.two HR0.out k _ hx
      dsimp only at c0 c1
      have hltI : (k : Int) < (n : Int) := by omega
      have HXI := Lib.hid (List.mem_of_getElem? hx)
      have HTK : Hid (l.take (k + 1) = l.take k ++ [(x1, x2)]) := Lib.hid (by rw [List.take_add_one, hx]; rfl)
      clear hx
      have bad : ¬ fit2 (x1, x2) → Hid (P (.returned (.tuple #[.string ⟨#[]⟩, .int .i64 3])) wr) := fun hb => Lib.hid (HNo.out wr (fun h => hb (h _ HXI.out)) (Below.refl _ _))
      by_cases h1 : x1 < 0
      · have HB := bad (fun h => by have := h.1.1; simp at this; omega)
        clear bad
        go_wp2_with fail
        exact HB.out
      · by_cases h2 : 255 < x1
        · have HB := bad (fun h => by have := h.1.2; simp at this; omega)
          clear bad
          go_wp2_with fail
          exact HB.out
        · by_cases h3 : x2 < 0
          · have HB := bad (fun h => by have := h.2.1; simp at this; omega)
            clear bad
            go_wp2_with fail
            exact HB.out
          · by_cases h4 : 255 < x2
            · have HB := bad (fun h => by have := h.2.2; simp at this; omega)
              clear bad
              go_wp2_with fail
              exact HB.out
            · have HF1 : Hid (∀ x ∈ l.take (k + 1), fit2 x) := Lib.hid (fun x hx => by
                rw [HTK.out] at hx
                rcases List.mem_append.1 hx with hx | hx
                · exact HF.out x hx
                · simp at hx
                  subst hx
                  exact ⟨⟨by show 0 ≤ x1; omega, by show x1 ≤ 255; omega⟩, ⟨by show 0 ≤ x2; omega, by show x2 ≤ 255; omega⟩⟩)
              clear bad
              go_wp2_with fail
              go_roundw
              case rel => exact ⟨k + 1, by omega, by go_num, HF1, Lib.hid (by first | trivial | rfl)⟩
              case measure => simp [intOf]; omega
    · obtain rfl : n = k := by omega
      have HFA : Hid (∀ x ∈ l, fit2 x) := Lib.hid (by have := HF.out; rw [HNL.out, List.take_length] at this; exact this)
      have HE : Hid (∀ w', Below w.heap.size w w' → P (.returned (.tuple #[.string ⟨(rpk 0 l).toArray⟩, .int .i64 0])) w') := Lib.hid (fun w' => HY.out w' HFA.out)
      have HBw : Hid (Below w.heap.size w wr) := Lib.hid (by rw [HW.out]; exact Below.refl _ _)
      clear HF HNo HY HW
      go_wp2_with fail
      go_loopw [4, 5, 7] (fun sv mv iv wr' => ∃ (k m : Nat) (S : List UInt8), k ≤ n ∧ m < 256 ∧ sv = .string ⟨S.toArray⟩ ∧ mv = .int .i64 (m : Int) ∧ iv = .int .i64 (k : Int) ∧ Hid (S ++ rpk m (l.drop k) = rpk 0 l) ∧ Hid (S.length ≤ 3 * k) ∧ Hid (Below w.heap.size w wr')) (fun sv mv iv _ => n - (intOf iv).toNat)
      case atStart => exact ⟨0, 0, [], Nat.zero_le _, by omega, rfl, rfl, rfl, Lib.hid rfl, Lib.hid (Nat.le_refl _), HBw⟩
      case round =>
        obtain ⟨k, m, S, hk, hm, rfl, rfl, rfl, HS, HSL, HB⟩ := hrel
        clear HBw
        by_cases hlt : k < n
        · obtain ⟨⟨x1, x2⟩, hx⟩ : ∃ x, l[k]? = some x := ⟨_, List.getElem?_eq_getElem (by rw [← HNL.out]; exact hlt)⟩
          obtain ⟨b, f, rfl, hbl, c0, c1⟩ := RV.two (HR0.out.below HB.out) k _ hx
          dsimp only at c0 c1
          have hltI : (k : Int) < (n : Int) := by omega
          have hfx := HFA.out _ (List.mem_of_getElem? hx)
          have hs := HS.out
          rw [drop_at2 hx] at hs
          have hwm : IntKind.i64.wrap ((m : Int) + 1) = ((m + 1 : Nat) : Int) := by rw [IntKind.wrap_i64]; omega
          have hwk : IntKind.i64.wrap ((k : Int) + 1) = ((k + 1 : Nat) : Int) := by rw [IntKind.wrap_i64]; omega
          have HFX := Lib.hid hfx
          have HSS := Lib.hid hs
          have C0 : Hid (∀ w', Below wr.heap.size wr w' → w'.cell? ⟨b, f + k * 2, none⟩ = some (.int .i64 x1) ∧ w'.cell? ⟨b, f + k * 2 + 1, none⟩ = some (.int .i64 x2)) := Lib.hid (fun w' hb => ⟨(hb.cell (p := ⟨b, _, none⟩) hbl).trans c0, (hb.cell (p := ⟨b, _, none⟩) hbl).trans c1⟩)
          have hu1 : IntKind.u8.wrap x1 = x1 := by have h1 := hfx.1.1; have h2 := hfx.1.2; simp only at h1 h2; simp [IntKind.wrap, IntKind.bits, IntKind.signed]; omega
          have hu2 : IntKind.u8.wrap x2 = x2 := by have h1 := hfx.2.1; have h2 := hfx.2.2; simp only at h1 h2; simp [IntKind.wrap, IntKind.bits, IntKind.signed]; omega
          have hu3 : IntKind.u8.wrap (m : Int) = (m : Int) := by simp [IntKind.wrap, IntKind.bits, IntKind.signed]; omega
          have hm1 : IntKind.i64.wrap (((m + 1 : Nat) : Int) - 1) = (m : Int) := by rw [IntKind.wrap_i64]; omega
          have hm2 : ((m + 1 : Nat) : Int) - 1 = (m : Int) := by omega
          have hm3 : IntKind.i64.wrap (m : Int) = (m : Int) := by rw [IntKind.wrap_i64]; omega
          clear hfx hs
          by_cases hk1 : k + 1 < n
          · obtain ⟨⟨y1, y2⟩, hy⟩ : ∃ y, l[k + 1]? = some y := ⟨_, List.getElem?_eq_getElem (by rw [← HNL.out]; exact hk1)⟩
            obtain ⟨b', f', e', _, d0, d1⟩ := RV.two (HR0.out.below HB.out) (k + 1) _ hy
            rw [Option.some.injEq, Addr.mk.injEq] at e'
            obtain ⟨rfl, rfl, _⟩ := e'
            dsimp only at d0 d1
            have hk1I : (k : Int) + 1 < (n : Int) := by omega
            have hk1I2 : ((k + 1 : Nat) : Int) < (n : Int) := by omega
            have hk10 : 0 ≤ (k : Int) + 1 := by omega
            have HDR := Lib.hid (drop_at2 hy)
            obtain ⟨v, hv⟩ : ∃ v, (y1 == x1 && y2 == x2) = v := ⟨_, rfl⟩
            have hvi := pk_iff (x := (y1, y2)) (y := (x1, x2)) hv
            have heq := pk_eq y1 y2 x1 x2 v hv
            clear hx hy hv
            cases v with
            | true =>
              have hxy := hvi.1 rfl
              rw [hxy] at HDR
              clear hvi hxy
              by_cases hm256 : m + 1 < 256
              · have hmI : (m : Int) + 1 < 256 := by omega
                have hmI2 : ((m + 1 : Nat) : Int) < 256 := by omega
                have HQN : Hid (S ++ rpk (m + 1) (l.drop (k + 1)) = rpk 0 l) := Lib.hid (by rw [HDR.out, ← rpk_same hm256, ← HDR.out]; exact HSS.out)
                have HSL1 : Hid (S.length ≤ 3 * (k + 1)) := Lib.hid (by have := HSL.out; omega)
                clear HSS HSL
                go_wp2_with fail
                go_quiet (fail)
                have HBq := Lib.hid (tr3 HB.out (below_drewN wr nq))
                go_wp2_with fail
                go_roundw
                case rel => exact ⟨k + 1, m + 1, S, by omega, by omega, rfl, by go_num, by go_num, HQN, HSL1, HBq⟩
                case measure => simp [intOf]; omega
              · have hmI : ¬ (m : Int) + 1 < 256 := by omega
                have hmI2 : ¬ ((m + 1 : Nat) : Int) < 256 := by omega
                have hmd : decide ((m : Int) + 1 < 256) = false := decide_eq_false hmI
                have hmd2 : decide (m + 1 < 256) = false := decide_eq_false (by omega)
                have HQN : Hid ((S ++ tri (x1, x2) m) ++ rpk 0 (l.drop (k + 1)) = rpk 0 l) := Lib.hid (by rw [List.append_assoc, ← rpk_end (m := m) (x := (x1, x2)) (r := l.drop (k + 1)) (fun y z h1 h2 => by omega)]; exact HSS.out)
                clear HSS
                go_wp2_with fail
                go_quiet (fail)
                obtain ⟨Wa, hWa⟩ : ∃ Wa, wr.drewN nq = Wa := ⟨_, rfl⟩
                rw [hWa]
                have HBa := Lib.hid (tr3 HB.out (show Below wr.heap.size wr Wa by rw [← hWa]; exact below_drewN _ _))
                obtain ⟨c0, c1⟩ := C0.out Wa (by rw [← hWa]; exact below_drewN _ _)
                clear hWa
                obtain ⟨s3, hs3⟩ : ∃ s3 : ByteArray, s3 = ⟨#[by1 x1, by1 x2, UInt8.ofNat m]⟩ := ⟨_, rfl⟩
                have hcv : Sem.run Try.prog (convert 63 9 (.slice (some ⟨Wa.heap.size, 0, none⟩) 3 3)) ((Wa.alloc (.cells #[.int .u8 x1, .int .u8 x2, .int .u8 (m : Int)] 5)).drew) = .ok (.string s3) ((Wa.alloc (.cells #[.int .u8 x1, .int .u8 x2, .int .u8 (m : Int)] 5)).drew) := by
                  rw [hs3]
                  refine conv3 _ _ (by1 x1) (by1 x2) (UInt8.ofNat m) ?_
                  rw [by1_nat HFX.out.1, by1_nat HFX.out.2, byM m hm]
                  exact ro.heap_new Wa _
                have hcat : (⟨S.toArray⟩ : ByteArray) ++ s3 = ⟨(S ++ tri (x1, x2) m).toArray⟩ := by
                  rw [hs3]
                  apply Go.WideShapes.bytes_inj
                  simp [tri]
                have hS3 : (S ++ tri (x1, x2) m).length ≤ 3 * (k + 1) := by rw [List.length_append]; have := HSL.out; simp [tri]; omega
                have HS3 := Lib.hid hS3
                obtain ⟨S3, hSS3⟩ : ∃ S3, S ++ tri (x1, x2) m = S3 := ⟨_, rfl⟩
                rw [hSS3] at hcat HQN HS3
                have hz1 : (⟨S.toArray⟩ : ByteArray).size = S.length := str_size S
                have hz3 : s3.size = 3 := by rw [hs3]; rfl
                have hzl : S.length ≤ 18000 := by have := HSL.out; omega
                clear hs3 hS3 hSS3 heq d0 d1
                go_wp2_with fail
                go_region
                all_goals
                  have HBz : Hid (Below w.heap.size w ((Wa.alloc (.cells #[.int .u8 x1, .int .u8 x2, .int .u8 (m : Int)] 5)).drew)) := Lib.hid (tr3 HBa.out (tr3 (show Below Wa.heap.size Wa (Wa.alloc (.cells #[.int .u8 x1, .int .u8 x2, .int .u8 (m : Int)] 5)) by go_grown) (below_drewN _ 1)))
                  go_wp2_with fail
                  go_roundw
                  case rel => exact ⟨k + 1, 0, S3, by omega, by omega, rfl, rfl, by go_num, HQN, HS3, HBz⟩
                  case measure => simp [intOf]; omega
            | false =>
              have hnxy : ¬ ((y1, y2) = (x1, x2)) := fun h => by have := hvi.2 h; cases this
              have HNX := Lib.hid hnxy
              clear hvi hnxy
              have HQN : Hid ((S ++ tri (x1, x2) m) ++ rpk 0 (l.drop (k + 1)) = rpk 0 l) := Lib.hid (by rw [List.append_assoc, ← rpk_end (m := m) (x := (x1, x2)) (r := l.drop (k + 1)) (fun y z h1 h2 => by rw [HDR.out] at h1; injection h1 with h3 h4; exact absurd (h3.trans h2) HNX.out)]; exact HSS.out)
              clear HSS
              go_wp2_with fail
              go_quiet (fail)
              obtain ⟨Wa, hWa⟩ : ∃ Wa, wr.drewN nq = Wa := ⟨_, rfl⟩
              rw [hWa]
              have HBa := Lib.hid (tr3 HB.out (show Below wr.heap.size wr Wa by rw [← hWa]; exact below_drewN _ _))
              obtain ⟨c0, c1⟩ := C0.out Wa (by rw [← hWa]; exact below_drewN _ _)
              clear hWa
              obtain ⟨s3, hs3⟩ : ∃ s3 : ByteArray, s3 = ⟨#[by1 x1, by1 x2, UInt8.ofNat m]⟩ := ⟨_, rfl⟩
              have hcv : Sem.run Try.prog (convert 63 9 (.slice (some ⟨Wa.heap.size, 0, none⟩) 3 3)) ((Wa.alloc (.cells #[.int .u8 x1, .int .u8 x2, .int .u8 (m : Int)] 5)).drew) = .ok (.string s3) ((Wa.alloc (.cells #[.int .u8 x1, .int .u8 x2, .int .u8 (m : Int)] 5)).drew) := by
                rw [hs3]
                refine conv3 _ _ (by1 x1) (by1 x2) (UInt8.ofNat m) ?_
                rw [by1_nat HFX.out.1, by1_nat HFX.out.2, byM m hm]
                exact ro.heap_new Wa _
              have hcat : (⟨S.toArray⟩ : ByteArray) ++ s3 = ⟨(S ++ tri (x1, x2) m).toArray⟩ := by
                rw [hs3]
                apply Go.WideShapes.bytes_inj
                simp [tri]
              have hS3 : (S ++ tri (x1, x2) m).length ≤ 3 * (k + 1) := by rw [List.length_append]; have := HSL.out; simp [tri]; omega
              have HS3 := Lib.hid hS3
              obtain ⟨S3, hSS3⟩ : ∃ S3, S ++ tri (x1, x2) m = S3 := ⟨_, rfl⟩
              rw [hSS3] at hcat HQN HS3
              have hz1 : (⟨S.toArray⟩ : ByteArray).size = S.length := str_size S
              have hz3 : s3.size = 3 := by rw [hs3]; rfl
              have hzl : S.length ≤ 18000 := by have := HSL.out; omega
              clear hs3 hS3 hSS3 heq d0 d1
              go_wp2_with fail
              go_region
              all_goals
                have HBz : Hid (Below w.heap.size w ((Wa.alloc (.cells #[.int .u8 x1, .int .u8 x2, .int .u8 (m : Int)] 5)).drew)) := Lib.hid (tr3 HBa.out (tr3 (show Below Wa.heap.size Wa (Wa.alloc (.cells #[.int .u8 x1, .int .u8 x2, .int .u8 (m : Int)] 5)) by go_grown) (below_drewN _ 1)))
                go_wp2_with fail
                go_roundw
                case rel => exact ⟨k + 1, 0, S3, by omega, by omega, rfl, rfl, by go_num, HQN, HS3, HBz⟩
                case measure => simp [intOf]; omega
          · have hk1I : ¬ (k : Int) + 1 < (n : Int) := by omega
            have hk1I2 : ¬ ((k + 1 : Nat) : Int) < (n : Int) := by omega
            have hkd : decide ((k : Int) + 1 < (n : Int)) = false := decide_eq_false hk1I
            have hkd2 : decide (k + 1 < n) = false := decide_eq_false hk1
            have HDR : Hid (l.drop (k + 1) = []) := Lib.hid (List.drop_eq_nil_of_le (by rw [← HNL.out]; omega))
            clear hx
            have heq : True := trivial
            have HQN : Hid ((S ++ tri (x1, x2) m) ++ rpk 0 (l.drop (k + 1)) = rpk 0 l) := Lib.hid (by rw [List.append_assoc, ← rpk_end (m := m) (x := (x1, x2)) (r := l.drop (k + 1)) (fun y z h1 h2 => by rw [HDR.out] at h1; cases h1)]; exact HSS.out)
            clear HSS
            go_wp2_with fail
            go_quiet (fail)
            obtain ⟨Wa, hWa⟩ : ∃ Wa, wr.drewN nq = Wa := ⟨_, rfl⟩
            rw [hWa]
            have HBa := Lib.hid (tr3 HB.out (show Below wr.heap.size wr Wa by rw [← hWa]; exact below_drewN _ _))
            obtain ⟨c0, c1⟩ := C0.out Wa (by rw [← hWa]; exact below_drewN _ _)
            clear hWa
            obtain ⟨s3, hs3⟩ : ∃ s3 : ByteArray, s3 = ⟨#[by1 x1, by1 x2, UInt8.ofNat m]⟩ := ⟨_, rfl⟩
            have hcv : Sem.run Try.prog (convert 63 9 (.slice (some ⟨Wa.heap.size, 0, none⟩) 3 3)) ((Wa.alloc (.cells #[.int .u8 x1, .int .u8 x2, .int .u8 (m : Int)] 5)).drew) = .ok (.string s3) ((Wa.alloc (.cells #[.int .u8 x1, .int .u8 x2, .int .u8 (m : Int)] 5)).drew) := by
              rw [hs3]
              refine conv3 _ _ (by1 x1) (by1 x2) (UInt8.ofNat m) ?_
              rw [by1_nat HFX.out.1, by1_nat HFX.out.2, byM m hm]
              exact ro.heap_new Wa _
            have hcat : (⟨S.toArray⟩ : ByteArray) ++ s3 = ⟨(S ++ tri (x1, x2) m).toArray⟩ := by
              rw [hs3]
              apply Go.WideShapes.bytes_inj
              simp [tri]
            have hS3 : (S ++ tri (x1, x2) m).length ≤ 3 * (k + 1) := by rw [List.length_append]; have := HSL.out; simp [tri]; omega
            have HS3 := Lib.hid hS3
            obtain ⟨S3, hSS3⟩ : ∃ S3, S ++ tri (x1, x2) m = S3 := ⟨_, rfl⟩
            rw [hSS3] at hcat HQN HS3
            have hz1 : (⟨S.toArray⟩ : ByteArray).size = S.length := str_size S
            have hz3 : s3.size = 3 := by rw [hs3]; rfl
            have hzl : S.length ≤ 18000 := by have := HSL.out; omega
            clear hs3 hS3 hSS3 heq
            go_wp2_with fail
            go_region
            all_goals
              have HBz : Hid (Below w.heap.size w ((Wa.alloc (.cells #[.int .u8 x1, .int .u8 x2, .int .u8 (m : Int)] 5)).drew)) := Lib.hid (tr3 HBa.out (tr3 (show Below Wa.heap.size Wa (Wa.alloc (.cells #[.int .u8 x1, .int .u8 x2, .int .u8 (m : Int)] 5)) by go_grown) (below_drewN _ 1)))
              go_wp2_with fail
              go_roundw
              case rel => exact ⟨k + 1, 0, S3, by omega, by omega, rfl, rfl, by go_num, HQN, HS3, HBz⟩
              case measure => simp [intOf]; omega
        · obtain rfl : n = k := by omega
          have HEQ : Hid (S = rpk 0 l) := Lib.hid (by
            have := HS.out
            rw [HNL.out, List.drop_length] at this
            simpa [rpk] using this)
          have HEE := Lib.hid (HE.out wr HB.out)
          rw [← HEQ.out] at HEE
          clear HS HSL HB
          go_wp2_with fail
          exact HEE.out
end Go.Proofs.Ytokkgfefiblmiaa.rp
