/- A number that is written, as the document has it (layer 5). -/
import Derived.Test.YtdgjlniciehjbaaDoorWdB
namespace Go.Proofs.YtdgjlniciehjbaaDoor.wd
open Go.ChangeShapes Go.WideShapes Go.ChangeAt Go.RowKit Go.Lib
open Go.Proofs.YtdgjlniciehjbaaDoor.st
set_option linter.unusedVariables false
set_option linter.unusedSimpArgs false
theorem head_is {l : List UInt8} {c : UInt8} {r : List UInt8} (h : l = c :: r) : (l.head? = some 45) ↔ c.toNat = 45 := by
  subst h
  simp only [List.head?_cons, Option.some.injEq]
  exact ⟨fun h => by rw [h]; rfl, fun h => UInt8.toNat_inj.1 h⟩
set_option maxRecDepth 20000 in
set_option maxHeartbeats 4000000 in
theorem rnum_v (l : List UInt8) (w : World) (hl : l.length ≤ 1000000) : Calls Tryd.prog 30 #[.string ⟨l.toArray⟩] w fun e w' => e = .returned (.tuple #[.int .i64 (numV l).1, .bool (numV l).2]) ∧ Below w.heap.size w w' := by
  rw [← rnV_eq]
  have hfs := str_size l
  obtain ⟨R1, R2, hr⟩ : ∃ a b, rnV l = (a, b) := ⟨_, _, rfl⟩
  rw [hr]
  unfold rnV at hr
  by_cases h20 : 20 < l.length
  · rw [if_pos h20, Prod.mk.injEq] at hr
    obtain ⟨rfl, rfl⟩ := hr
    have h20i : (20 : Int) < l.length := by omega
    go_enter Tryd.func30, Tryd.ntmps30
    go_wp2_with fail
    go_ret2
    exact ⟨rfl, Below.refl _ _⟩
  · rw [if_neg h20] at hr
    have h20i : ¬ (20 : Int) < l.length := by omega
    obtain ⟨B, hB⟩ : ∃ B, (if l.head? = some 45 then l.drop 1 else l) = B := ⟨_, rfl⟩
    obtain ⟨F, hF⟩ : ∃ F, rnF 0 B = F := ⟨_, rfl⟩
    rw [hB, hF] at hr
    have HR := Lib.hid hr
    have HBB := Lib.hid hB
    have h00 : Hid (rnF 0 (if (0 : Nat) = 0 then B else l.drop 0) = F) := Lib.hid (by rw [if_pos rfl]; exact hF)
    have hBw := Lib.hid (Below.refl w.heap.size w)
    clear hr hB hF h20
    go_enter Tryd.func30, Tryd.ntmps30
    go_wp2_with fail
    go_loopw [4, 5] (fun nv iv wr => ∃ (k : Nat) (a : Int), nv = .int .i64 a ∧ iv = .int .i64 (k : Int) ∧ -9223372036854775808 ≤ a ∧ a ≤ 9223372036854775807 ∧ k ≤ l.length ∧ Hid (rnF a (if k = 0 then B else l.drop k) = F) ∧ Hid (k = 0 → a = 0) ∧ Hid (Below w.heap.size w wr)) (fun _ iv _ => l.length - (RowKit.intOf iv).toNat)
    case atStart => exact ⟨0, 0, rfl, rfl, by omega, by omega, by omega, h00, Lib.hid (fun _ => rfl), hBw⟩
    case round =>
      clear h00 hBw
      obtain ⟨k, a, rfl, rfl, ha0, ha1, hk, HF, HZ, HB⟩ := hrel
      by_cases hlt : k < l.length
      · have hd : l.drop k = l.getD k 0 :: l.drop (k + 1) := drop_at l 0 k hlt
        have hat : (⟨l.toArray⟩ : ByteArray)[k]'(by rw [hfs]; exact hlt) = l.getD k 0 := str_at l k _
        obtain ⟨c, hc⟩ : ∃ c, l.getD k 0 = c := ⟨_, rfl⟩
        rw [hc] at hd hat
        obtain ⟨cn, hcn⟩ : ∃ n, c.toNat = n := ⟨_, rfl⟩
        have hcb : cn < 256 := by rw [← hcn]; exact c.toNat_lt
        have hki : (k : Int) < l.length := by omega
        by_cases hA : k = 0 ∧ cn = 45
        · obtain ⟨rfl, h45⟩ := hA
          have hh : l.head? = some 45 := (head_is (c := c) (r := l.drop 1) (by simpa using hd)).2 (by omega)
          have hBe := HBB.out
          rw [if_pos hh] at hBe
          have ha := HZ.out rfl
          subst ha
          have hn1 : Hid (rnF 0 (if (0 + 1 : Nat) = 0 then B else l.drop (0 + 1)) = F) := Lib.hid (by
            have := HF.out
            rw [if_pos rfl, ← hBe] at this
            rw [if_neg (by omega)]; exact this)
          have h45i : ((cn : Int) == 45) = true := beq_iff_eq.2 (by omega)
          clear hBe HF HZ hd hh
          go_wp2_with fail
          go_roundw
          case rel => exact ⟨0 + 1, 0, rfl, by go_num, by omega, by omega, by omega, hn1, Lib.hid (fun h => absurd h (by omega)), HB⟩
          case measure => simp [RowKit.intOf]; omega
        · have hlist : (if k = 0 then B else l.drop k) = c :: l.drop (k + 1) := by
            by_cases hk0 : k = 0
            · subst hk0
              have hh : ¬ l.head? = some 45 := fun h => hA ⟨rfl, by rw [← hcn]; exact (head_is (c := c) (r := l.drop 1) (by simpa using hd)).1 h⟩
              have hBe := HBB.out
              rw [if_neg hh] at hBe
              rw [if_pos rfl, ← hBe]
              simpa using hd
            · rw [if_neg hk0]; exact hd
          have hf := HF.out
          rw [hlist, rnF, hcn] at hf
          have hcond : ((k : Int) == 0) = false ∨ (k = 0 ∧ ((cn : Int) == 45) = false) := by
            by_cases hk0 : k = 0
            · exact .inr ⟨hk0, beq_eq_false_iff_ne.2 (fun h => hA ⟨hk0, by omega⟩)⟩
            · exact .inl (beq_eq_false_iff_ne.2 (by omega))
          clear hlist HF HZ hd hA
          by_cases hdg : 48 ≤ cn ∧ cn ≤ 57
          · rw [if_pos hdg] at hf
            obtain ⟨hd0, hd1⟩ := hdg
            have g0 : decide ((cn : Int) < 48) = false := decide_eq_false (by omega)
            have g1 : decide (57 < (cn : Int)) = false := decide_eq_false (by omega)
            have g0i : ¬ (cn : Int) < 48 := by omega
            have g1i : ¬ 57 < (cn : Int) := by omega
            obtain ⟨a', ha'⟩ : ∃ a', wrap64 (10 * a + cn - 48) = a' := ⟨_, rfl⟩
            rw [ha'] at hf
            have hab : -9223372036854775808 ≤ a' ∧ a' ≤ 9223372036854775807 := by rw [← ha']; exact wrap_I _
            obtain ⟨hab0, hab1⟩ := hab
            obtain ⟨p1, hp1⟩ : ∃ p, IntKind.i64.wrap (10 * a) = p := ⟨_, rfl⟩
            obtain ⟨p2, hp2⟩ : ∃ p, IntKind.i64.wrap (p1 + (cn : Int)) = p := ⟨_, rfl⟩
            have hp3 : IntKind.i64.wrap (p2 - 48) = a' := by
              rw [← ha', ← hp2, ← hp1, IntKind.wrap_i64, IntKind.wrap_i64, IntKind.wrap_i64]
              unfold wrap64; omega
            have hnx : Hid (rnF a' (if k + 1 = 0 then B else l.drop (k + 1)) = F) := Lib.hid (by rw [if_neg (by omega)]; exact hf)
            clear hf ha'
            rcases hcond with hcond | ⟨rfl, hcond⟩
            · go_wp2_with fail
              go_roundw
              case rel => exact ⟨k + 1, a', rfl, by go_num, hab0, hab1, by omega, hnx, Lib.hid (fun h => absurd h (by omega)), HB⟩
              case measure => simp [RowKit.intOf]; omega
            · go_wp2_with fail
              go_roundw
              case rel => exact ⟨0 + 1, a', rfl, by go_num, hab0, hab1, by omega, hnx, Lib.hid (fun h => absurd h (by omega)), HB⟩
              case measure => simp [RowKit.intOf]; omega
          · rw [if_neg hdg] at hf
            have hr := HR.out
            rw [← hf] at hr
            simp only [Prod.mk.injEq] at hr
            obtain ⟨rfl, rfl⟩ := hr
            clear HR hf
            by_cases hlo : cn < 48
            · have g0 : decide ((cn : Int) < 48) = true := decide_eq_true (by omega)
              have g0i : (cn : Int) < 48 := by omega
              rcases hcond with hcond | ⟨rfl, hcond⟩
              · go_wp2_with fail
                go_ret2
                exact ⟨rfl, HB.out⟩
              · go_wp2_with fail
                go_ret2
                exact ⟨rfl, HB.out⟩
            · have g0 : decide ((cn : Int) < 48) = false := decide_eq_false (by omega)
              have g0i : ¬ (cn : Int) < 48 := by omega
              have g1 : decide (57 < (cn : Int)) = true := decide_eq_true (by omega)
              have g1i : 57 < (cn : Int) := by omega
              rcases hcond with hcond | ⟨rfl, hcond⟩
              · go_wp2_with fail
                go_ret2
                exact ⟨rfl, HB.out⟩
              · go_wp2_with fail
                go_ret2
                exact ⟨rfl, HB.out⟩
      · obtain rfl : k = l.length := by omega
        have hF : F = some a := by
          have := HF.out
          rw [List.drop_length] at this
          by_cases h0 : l.length = 0
          · have hl0 := List.eq_nil_of_length_eq_zero h0
            have hBe := HBB.out
            rw [hl0] at hBe
            simp at hBe
            rw [if_pos h0, hBe] at this
            exact this.symm
          · rw [if_neg h0] at this; exact this.symm
        by_cases h0 : l.length = 0
        · have hh : ¬ l.head? = some 45 := by rw [List.eq_nil_of_length_eq_zero h0]; simp
          have h0i : ¬ (0 : Int) < l.length := by omega
          have h0d : decide ((0 : Int) < l.length) = false := decide_eq_false h0i
          have h0n : ¬ 0 < l.length := by omega
          obtain ⟨n', hn'⟩ : ∃ n', a = n' := ⟨_, rfl⟩
          subst hn'
          have HIN : I64 a := ⟨ha0, ha1⟩
          have hI : I64 a := HIN
          have CO := Lib.hid (fun w => rof_v a w hI)
          have hr := HR.out
          rw [hF] at hr
          simp only [if_neg hh] at hr
          by_cases he : itoa a = l
          · rw [if_pos he, Prod.mk.injEq] at hr
            obtain ⟨rfl, rfl⟩ := hr
            have hee : (itoa a == l) = true := by simpa using he
            clear he hI HF HZ HR hF HIN
            go_wp2_with fail
            refine (CO.out _).mono ?_
            rintro e w2 ⟨rfl, hb2⟩
            have HB2 := Lib.hid (tr3 HB.out hb2)
            clear hb2 CO
            go_wp2_with fail
            go_ret2
            exact ⟨rfl, HB2.out⟩
          · rw [if_neg he, Prod.mk.injEq] at hr
            obtain ⟨rfl, rfl⟩ := hr
            have hee : (itoa a == l) = false := by simpa using he
            clear he hI HF HZ HR hF HIN
            go_wp2_with fail
            refine (CO.out _).mono ?_
            rintro e w2 ⟨rfl, hb2⟩
            have HB2 := Lib.hid (tr3 HB.out hb2)
            clear hb2 CO
            go_wp2_with fail
            go_ret2
            exact ⟨rfl, HB2.out⟩
        · have h0i : (0 : Int) < l.length := by omega
          have h0d : decide ((0 : Int) < l.length) = true := decide_eq_true h0i
          have h0n : 0 < l.length := by omega
          have hd : l.drop 0 = l.getD 0 0 :: l.drop (0 + 1) := drop_at l 0 0 h0n
          have hat : (⟨l.toArray⟩ : ByteArray)[0]'(by rw [hfs]; exact h0n) = l.getD 0 0 := str_at l 0 _
          obtain ⟨c, hc⟩ : ∃ c, l.getD 0 0 = c := ⟨_, rfl⟩
          rw [hc] at hd hat
          obtain ⟨cn, hcn⟩ : ∃ n, c.toNat = n := ⟨_, rfl⟩
          have hhd := head_is (l := l) (c := c) (r := l.drop (0 + 1)) (by rw [← hd, List.drop_zero])
          rw [hcn] at hhd
          clear hd
          by_cases h45 : cn = 45
          · have hh : l.head? = some 45 := hhd.2 h45
            have h45i : ((cn : Int) == 45) = true := beq_iff_eq.2 (by omega)
            obtain ⟨n', hn'⟩ : ∃ n', wrap64 (-a) = n' := ⟨_, rfl⟩
            have hwn : IntKind.i64.wrap (-a) = n' := by rw [← hn', IntKind.wrap_i64]; unfold wrap64; omega
            have HIN : I64 n' := by rw [← hn']; exact wrap_I _
            clear hhd h45
            have hI : I64 n' := HIN
            have CO := Lib.hid (fun w => rof_v n' w hI)
            have hr := HR.out
            rw [hF] at hr
            simp only [if_pos hh, hn'] at hr
            by_cases he : itoa n' = l
            · rw [if_pos he, Prod.mk.injEq] at hr
              obtain ⟨rfl, rfl⟩ := hr
              have hee : (itoa n' == l) = true := by simpa using he
              clear he hI HF HZ HR hF HIN
              go_wp2_with fail
              refine (CO.out _).mono ?_
              rintro e w2 ⟨rfl, hb2⟩
              have HB2 := Lib.hid (tr3 HB.out hb2)
              clear hb2 CO
              go_wp2_with fail
              go_ret2
              exact ⟨rfl, HB2.out⟩
            · rw [if_neg he, Prod.mk.injEq] at hr
              obtain ⟨rfl, rfl⟩ := hr
              have hee : (itoa n' == l) = false := by simpa using he
              clear he hI HF HZ HR hF HIN
              go_wp2_with fail
              refine (CO.out _).mono ?_
              rintro e w2 ⟨rfl, hb2⟩
              have HB2 := Lib.hid (tr3 HB.out hb2)
              clear hb2 CO
              go_wp2_with fail
              go_ret2
              exact ⟨rfl, HB2.out⟩
          · have hh : ¬ l.head? = some 45 := fun h => h45 (hhd.1 h)
            have h45i : ((cn : Int) == 45) = false := beq_eq_false_iff_ne.2 (by omega)
            have HIN : I64 a := ⟨ha0, ha1⟩
            clear hhd h45
            have hI : I64 a := HIN
            have CO := Lib.hid (fun w => rof_v a w hI)
            have hr := HR.out
            rw [hF] at hr
            simp only [if_neg hh] at hr
            by_cases he : itoa a = l
            · rw [if_pos he, Prod.mk.injEq] at hr
              obtain ⟨rfl, rfl⟩ := hr
              have hee : (itoa a == l) = true := by simpa using he
              clear he hI HF HZ HR hF HIN
              go_wp2_with fail
              refine (CO.out _).mono ?_
              rintro e w2 ⟨rfl, hb2⟩
              have HB2 := Lib.hid (tr3 HB.out hb2)
              clear hb2 CO
              go_wp2_with fail
              go_ret2
              exact ⟨rfl, HB2.out⟩
            · rw [if_neg he, Prod.mk.injEq] at hr
              obtain ⟨rfl, rfl⟩ := hr
              have hee : (itoa a == l) = false := by simpa using he
              clear he hI HF HZ HR hF HIN
              go_wp2_with fail
              refine (CO.out _).mono ?_
              rintro e w2 ⟨rfl, hb2⟩
              have HB2 := Lib.hid (tr3 HB.out hb2)
              clear hb2 CO
              go_wp2_with fail
              go_ret2
              exact ⟨rfl, HB2.out⟩
end Go.Proofs.YtdgjlniciehjbaaDoor.wd
