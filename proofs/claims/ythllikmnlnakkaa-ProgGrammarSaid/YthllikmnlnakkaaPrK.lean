/- The program that bytes are: behind the label 'function' (layer 4). -/
import Derived.Test.YthllikmnlnakkaaPrJ
namespace Go.Proofs.Ythllikmnlnakkaa.pr
open Go.ChangeShapes Go.WideShapes Go.ChangeAt Go.RowKit
open Go.Proofs.Ythllikmnlnakkaa.bin Go.Proofs.Ythllikmnlnakkaa.bits Go.Proofs.Ythllikmnlnakkaa.ins
set_option linter.unusedVariables false
set_option linter.unusedSimpArgs false
theorem KG.mono {w0 : World} {res : R3} {n n' : Nat} (h : n ≤ n') {c : Code} {a : Act} {w : World} (hc : c.wp Try.prog (QG w0 res (KG w0 res n)) a w) : c.wp Try.prog (QG w0 res (KG w0 res n')) a w :=
  Code.wp_mono (fun e a w hq => by
    cases e with
    | goto l => exact ⟨hq.1, Nat.lt_of_lt_of_le hq.2 h⟩
    | _ => exact hq) hc
theorem KG.any {w0 : World} {res : R3} {n : Nat} {c : Code} {a : Act} {w : World} (hc : c.wp Try.prog (QG w0 res (KG w0 res n)) a w) : c.wp Try.prog (QG w0 res (JG w0 res)) a w :=
  Code.wp_mono (fun e a w hq => by
    cases e with
    | goto l => exact hq.1
    | _ => exact hq) hc
theorem JG.fin {w0 w : World} {res : R3} {a : Act} {m : Int} {v : Value} {rows : List Value} {acc : List (List I4)} {r : List UInt8} {n : Nat} (hn : 1 < n) (hf : FR w0 a) (hg : HG w0 w m v rows acc) (h9 : a.tmps.getD 9 undef = .string ⟨r.toArray⟩) (hr : stF m 0 acc r = res) (hk : acc.length ≤ 16) : KG w0 res n 1 a w :=
  ⟨.inr (.inl ⟨rfl, hf, m, v, rows, acc, r, hg, h9, hr, by omega⟩), by simpa [mu] using hn⟩
theorem H3' {w0 : World} {res : R3} {a : Act} {w : World} {n : Nat} (h : J3 w0 res a w) (hn : mu 3 a ≤ n) : (R13 3).wp Try.prog (QG w0 res (KG w0 res n)) a w := by
  obtain ⟨n', rfl, h3⟩ := H3 w0 res a w h
  exact KG.mono hn h3
theorem NB.nil (rows : List Value) : NB rows (.slice none 0 0) := fun i x hx g hg e => by simp [Value.ownBlock] at e
set_option maxRecDepth 20000 in
set_option maxHeartbeats 4000000 in
theorem H2 (w0 : World) (res : R3) (a : Act) (w : World) (h : J2 w0 res a w) : ∃ n, n = mu 2 a ∧ (R13 2).wp Try.prog (QG w0 res (KG w0 res n)) a w := by
  obtain ⟨hf, m, v, rows, acc, r, k, hg, h7, h9, hst, hk, hl⟩ := h
  refine ⟨_, rfl, ?_⟩
  rw [mu2 h9]
  obtain ⟨t, rfl⟩ := hf.lit
  rw [show t 9 = _ from h9, show t 7 = _ from h7]
  clear hf h9 h7
  cases k with
  | zero =>
    have HGH := Lib.hid hg
    clear hg
    conv => arg 2; whnf
    go_wp2_with fail
    go_step3
    exact JG.fin (by omega) ⟨rfl, rfl, rfl, rfl, rfl⟩ HGH.out rfl hst (by omega)
  | succ k =>
    rw [stF] at hst
    have hfs := str_size r
    have HGH := Lib.hid hg
    clear hg
    by_cases h2 : r.length < 2
    · rw [if_pos h2] at hst
      have h2i : (r.length : Int) < 2 := by omega
      conv => arg 2; whnf
      go_wp2_with fail
      go_step3
      exact JG.wrong (by omega) ⟨rfl, rfl, rfl, rfl, rfl⟩ HGH.out rfl hst
    · rw [if_neg h2] at hst
      have h2i : ¬ (r.length : Int) < 2 := by omega
      have h2g : (2 : Int) ≤ r.length := by omega
      have CN0 := fun w => number_v r 2 2 w rfl (by omega) hl
      obtain ⟨n, hn⟩ : ∃ n, ofB (r.take 2) = n := ⟨_, rfl⟩
      rw [hn] at hst CN0
      have hxd : (⟨r.toArray⟩ : ByteArray).extract 2 r.length = ⟨(r.drop 2).toArray⟩ := by
        have := str_drop r 2
        rwa [str_size] at this
      have hr5 : (r.drop 2).length = r.length - 2 := List.length_drop
      obtain ⟨r5, hr5e⟩ : ∃ r5, r.drop 2 = r5 := ⟨_, rfl⟩
      rw [hr5e] at hst hxd hr5
      obtain ⟨e, he⟩ : ∃ e, lenE n = e := ⟨_, rfl⟩
      rw [he] at hst
      have CN := Lib.hid CN0
      have CL := Lib.hid (fun w => len_v n e w he)
      have HHE := Lib.hid he
      clear CN0 hn hr5e he
      conv => arg 2; whnf
      go_wp2_with fail
      go_region_held3 (fun w' : World => Below w.heap.size w w') (first | (with_reducible assumption) | exact Below.refl _ _ | (go_grown; done))
        ((go_at_call 23; (with_reducible refine (CN.out _).mono ?_); rintro e' w6 ⟨rfl, hb6⟩; have hb7 : Below w.heap.size w w6 := Below.trans (by go_grown) (hb6.mono (by go_grown))))
      have H7 := Lib.hid (HGH.out.below hb7)
      clear hb6 hb7 CN HGH
      by_cases he0 : e = 0
      · subst he0
        rw [if_neg (by simp)] at hst
        obtain ⟨hn1, hn2⟩ := lenE_0 HHE.out
        go_wp2_with (go_at_call 25; (refine (CL.out _).mono ?_); rintro e' w' ⟨rfl, rfl⟩)
        go_step3
        go_step
        go_step
        refine H3' ?_ ?_
        · exact ⟨⟨rfl, rfl, rfl, rfl, rfl⟩, m, v, rows, acc, r5, k, n, [], .slice none 0 0, H7.out, rfl, rfl, rfl, OR.nil _ _ _, NB.nil rows, rfl, hst, by omega, by simp; omega, by omega⟩
        · rw [mu3 (r := r5) rfl]; omega
      · have he0b : (e == 0) = false := by simpa using he0
        have he0n : (e != 0) = true := by simpa using he0
        rw [if_pos he0] at hst
        go_wp2_with (go_at_call 25; (refine (CL.out _).mono ?_); rintro e' w' ⟨rfl, rfl⟩)
        go_step3
        exact JG.wrong (by omega) ⟨rfl, rfl, rfl, rfl, rfl⟩ H7.out rfl hst
end Go.Proofs.Ythllikmnlnakkaa.pr
