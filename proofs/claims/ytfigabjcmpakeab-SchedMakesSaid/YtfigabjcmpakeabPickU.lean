/- The reference's Turns: each worker once in each block (layer 36). -/
import Derived.Test.YtfigabjcmpakeabPickT
namespace Go.Proofs.Ytfigabjcmpakeab
open Go.ChangeShapes Go.WideShapes Go.ChangeAt Go.RowKit
open Go.Proofs.Ytfigabjcmpakeab.sch
set_option linter.unusedVariables false
set_option linter.unusedSimpArgs false
theorem team_of (n m1 v : Int) (w : World) (h1 : (if n < 1 then (1 : Int) else n) = m1) (h2 : (if 64 < m1 then (64 : Int) else m1) = v) : Calls Try.prog 86 #[.int .i64 n] w fun e w' => e = .returned (.int .i64 v) ∧ w = w' := by
  go_enter Try.func86, Try.ntmps86
  go_wp2
  go_ret
  exact ⟨rfl, rfl⟩
def tps (s : ByteArray) (n c : Nat) : List PK := (List.range c).map fun i => (((tn (ob s) n i : Nat) : Int), ((ob s (i / n) % n : Nat) : Int))
theorem tps_len (s : ByteArray) (n c : Nat) : (tps s n c).length = c := by simp [tps]
theorem tps_succ (s : ByteArray) (n c : Nat) : tps s n (c + 1) = tps s n c ++ [(((tn (ob s) n c : Nat) : Int), ((ob s (c / n) % n : Nat) : Int))] := by simp [tps, List.range_succ]
/-- Whose turn it is at place i of a block. -/
def wi (b n f i : Nat) : Nat := if 128 ≤ b then (f + (n - i)) % n else (f + i) % n
theorem wi_tn (s : ByteArray) (n k i : Nat) (hi : i < n) : tn (ob s) n (k * n + i) = wi (ob s k) n (ob s k % n) i := by
  have h1 : (k * n + i) / n = k := by rw [Nat.mul_comm, Nat.mul_add_div (by omega), Nat.div_eq_of_lt hi]; omega
  have h2 : (k * n + i) % n = i := by rw [Nat.mul_comm, Nat.mul_add_mod, Nat.mod_eq_of_lt hi]
  unfold tn wi
  rw [h1, h2]
theorem wi_lt (b n f i : Nat) (hn : 1 ≤ n) : wi b n f i < n := by
  unfold wi; split <;> exact Nat.mod_lt _ (by omega)
theorem wi_zero (b n f : Nat) (hf : f < n) : wi b n f 0 = f := by
  unfold wi
  split
  · rw [Nat.sub_zero, Nat.add_mod_right, Nat.mod_eq_of_lt hf]
  · rw [Nat.add_zero, Nat.mod_eq_of_lt hf]
theorem wi_fwd (b n f i : Nat) (hb : ¬ 128 ≤ b) : (wi b n f i + 1) % n = wi b n f (i + 1) := by
  unfold wi
  rw [if_neg hb, if_neg hb, Nat.mod_add_mod, Nat.add_assoc]
theorem wi_bwd (b n f i : Nat) (hb : 128 ≤ b) (hi : i < n) : (wi b n f i + n - 1) % n = wi b n f (i + 1) := by
  unfold wi
  rw [if_pos hb, if_pos hb, Nat.add_sub_assoc (by omega), Nat.mod_add_mod, show f + (n - i) + (n - 1) = (f + (n - (i + 1))) + n by omega, Nat.add_mod_right]
def lenV : Value → Nat
  | .slice _ n _ => n
  | _ => 0
set_option maxRecDepth 20000 in
set_option maxHeartbeats 1000000 in
theorem rturns_of (wk0 m0 st m1 : Int) (L n : Nat) (s : ByteArray) (w : World) (a1 : (if wk0 < 1 then (1 : Int) else wk0) = m0) (a2 : (if 64 < m0 then (64 : Int) else m0) = (n : Int)) (h1 : (if st < 0 then (0 : Int) else st) = m1) (h2 : (if 1048576 < m1 then (1048576 : Int) else m1) = L) (hL : L ≤ 100000) :
    Calls Try.prog 55 #[.int .i64 wk0, .int .i64 st, .string s] w fun e w' => ∃ a cap, e = .returned (.slice a L cap) ∧ PV w' a L cap (tps s n L) ∧ Below w.heap.size w w' := by
  have hn1 : 1 ≤ n := by split at a1 <;> split at a2 <;> omega
  have hn2 : n ≤ 64 := by split at a1 <;> split at a2 <;> omega
  have C1 := Lib.hid (fun w => team_of wk0 m0 n w a1 a2)
  have hd0 : ((n : Int) == 0) = false := by simp; omega
  have hd1 : ¬ (n : Int) = 0 := by omega
  have hd2 : ¬ n = 0 := by omega
  obtain rfl : m1 = (L : Int) := by split at h2 <;> omega
  clear a1 a2 h2
  go_enter Try.func55, Try.ntmps55
  go_wp2_with (first | (go_at_call 86; refine (C1.out _).mono ?_; rintro e w' ⟨rfl, rfl⟩))
  clear h1
  go_loopw [9, 10] (fun l kk wr => ∃ (k c : Nat) (a : Option Addr) (cap : Nat), (c = k * n ∨ c = L) ∧ k ≤ c ∧ c ≤ L ∧ kk = .int .i64 (k : Int) ∧ l = .slice a c cap ∧ Hid (OP wr w.heap.size (.slice a c cap) (tps s n c)) ∧ Below w.heap.size w wr) (fun l _ _ => L - lenV l)
  case atStart => exact ⟨0, 0, none, 0, .inl (by omega), by omega, by omega, rfl, rfl, Lib.hid (World.ownsRow_nil _ _ _ _), Below.refl _ _⟩
  case round =>
    obtain ⟨k, c, a, cap, hc, hkc, hcL, rfl, rfl, hop, hbw⟩ := hrel
    by_cases hlt : c < L
    · have hck : c = k * n := by omega
      obtain ⟨b, hb⟩ : ∃ b, ob s k = b := ⟨_, rfl⟩
      have hb2 := ob_lt s k
      rw [hb] at hb2
      obtain ⟨f, hf⟩ : ∃ f, b % n = f := ⟨_, rfl⟩
      have hfn : f < n := by rw [← hf]; exact Nat.mod_lt _ (by omega)
      have v3 : (b : Int).tmod (n : Int) = (f : Int) := by rw [Int.tmod_eq_emod_of_nonneg (by omega), ← hf]; push_cast; rfl
      have v4 : (b : Int) % (n : Int) = (f : Int) := by rw [← hf]; push_cast; rfl
      have HB := Lib.hid hb
      have HF := Lib.hid hf
      have HCK := Lib.hid hck
      clear hb hf hck hc
      obtain ⟨K, hK⟩ : ∃ K, k * n = K := ⟨_, rfl⟩
      have hcK : c = K := by rw [← hK]; exact HCK.out
      subst hcK
      have HK := Lib.hid hK
      clear hK HCK
      have HF2 : Hid (ob s k % n = f) := Lib.hid (by rw [HB.out]; exact HF.out)
      by_cases hs : s.size = 0
      · have hs1 : ¬ (0 : Int) < (s.size : Int) := by omega
        have hb0 : b = 0 := by rw [← HB.out]; unfold ob; rw [if_pos hs]
        subst hb0
        have v5 : (0 : Int).tmod (n : Int) = (f : Int) := v3
        have v6 : (0 : Int) % (n : Int) = (f : Int) := v4
        go_wp2_with fail
        go_loopw [9, 12, 13] (fun l wv iv wr => ∃ (i : Nat) (a : Option Addr) (cap : Nat), i ≤ n ∧ c + i ≤ L ∧ iv = .int .i64 (i : Int) ∧ wv = .int .i64 ((wi 0 n f i : Nat) : Int) ∧ l = .slice a (c + i) cap ∧ Hid (OP wr w.heap.size (.slice a (c + i) cap) (tps s n (c + i))) ∧ Below w.heap.size w wr) (fun _ _ iv _ => n - (intOf iv).toNat)
        case atStart => exact ⟨0, a, cap, by omega, by omega, rfl, by rw [wi_zero 0 n f hfn], rfl, hop, hbw⟩
        case round =>
          clear hop hbw
          obtain ⟨i, a, cap, hin, hciL, rfl, rfl, rfl, hop, hbw⟩ := hrel
          have hpos := wi_lt 0 n f i hn1
          by_cases hst : i < n ∧ c + i < L
          · obtain ⟨hi1, hi2⟩ := hst
            have hT : tps s n (c + (i + 1)) = tps s n (c + i) ++ [(((wi 0 n f i : Nat) : Int), (f : Int))] := by
              rw [show c + (i + 1) = (c + i) + 1 by omega, tps_succ]
              have e1 : tn (ob s) n (c + i) = wi 0 n f i := by rw [← HK.out, wi_tn s n k i hi1, HB.out, HF.out]
              have e2 : (c + i) / n = k := by rw [← HK.out, Nat.mul_comm, Nat.mul_add_div (by omega), Nat.div_eq_of_lt hi1]; omega
              rw [e1, e2, HF2.out]
            obtain ⟨x, hx⟩ : ∃ x, wi 0 n f i = x := ⟨_, rfl⟩
            obtain ⟨y, hy⟩ : ∃ y, wi 0 n f (i + 1) = y := ⟨_, rfl⟩
            rw [hx] at hT hpos ⊢
            have HT : Hid (tps s n (c + i) ++ [((x : Int), (f : Int))] = tps s n (c + (i + 1))) := Lib.hid hT.symm
            have HXV := Lib.hid hx
            have HY := Lib.hid hy
            clear hT hx hy
            have hop2 : OP wr w.heap.size (.slice a (c + i) cap) (tps s n (c + i)) := hop.out
            have H1 : Hid (OP (wr.alloc (.cells #[.int .i64 (x : Int), .int .i64 (f : Int)] 90)) w.heap.size (.slice a (c + i) cap) (tps s n (c + i))) := Lib.hid (hop2.below (by go_grown))
            have hsz1 : w.heap.size ≤ (wr.alloc (.cells #[.int .i64 (x : Int), .int .i64 (f : Int)] 90)).heap.size := by have := hbw.size; simp; omega
            have HC0 : Hid ((wr.alloc (.cells #[.int .i64 (x : Int), .int .i64 (f : Int)] 90)).cell? ⟨wr.heap.size, 0, none⟩ = some (.int .i64 (x : Int))) := Lib.hid (by go_simp)
            have HC1 : Hid ((wr.alloc (.cells #[.int .i64 (x : Int), .int .i64 (f : Int)] 90)).cell? ⟨wr.heap.size, 1, none⟩ = some (.int .i64 (f : Int))) := Lib.hid (by go_simp)
            have hsm1 : (tps s n (c + i)).length ≤ 1100000 := by rw [tps_len]; omega
            have HSM := Lib.hid hsm1
            clear hsm1
            have hv1 : (i : Int) < (n : Int) := by omega
            have hv2 : ((c + i : Nat) : Int) < (L : Int) := by omega
            clear hop2
            · have hb9 : ¬ 128 ≤ 0 := by omega
              have hmv : ((x : Int) + 1).tmod (n : Int) = (y : Int) := by rw [Int.tmod_eq_emod_of_nonneg (by omega), ← HY.out, ← HXV.out, ← wi_fwd 0 n f i (by omega)]; push_cast; rfl
              have hmv2 : ((x : Int) + 1) % (n : Int) = (y : Int) := by rw [← HY.out, ← HXV.out, ← wi_fwd 0 n f i (by omega)]; push_cast; rfl
              go_wp2_with (at_builtin; refine wpList_appP rfl _ _ rfl w.heap.size (.slice a (c + i) cap) (tps s n (c + i)) ((x : Int), (f : Int)) rfl wr.heap.size 1 rfl H1.out HC0.out HC1.out HSM.out hsz1 ?_)
              intro v' w' ho2 hg2 _
              obtain ⟨a2, cap2, rfl, _⟩ := ho2.out.form
              have hb2' : Below w.heap.size w w' := (hbw.alloc hbw.size _).grown hg2 hsz1 (fun k e => (H1.out.lt k e).1)
              have H2 : Hid (OP w' w.heap.size (.slice a2 (c + (i + 1)) cap2) (tps s n (c + (i + 1)))) := Lib.hid (by
                have h := ho2.out
                rw [HT.out] at h
                rw [tps_len] at h
                exact h)
              have hLen : (tps s n (c + i) ++ [((x : Int), (f : Int))]).length = c + (i + 1) := by rw [HT.out, tps_len]
              rw [hLen]
              clear ho2 hg2 hop H1 hLen HC0 HC1 hsz1
              go_wp2_with fail
              go_roundw
              case rel => exact ⟨i + 1, a2, cap2, by omega, by omega, by go_num, by rw [HY.out], rfl, H2, hb2'⟩
              case measure => simp [intOf]; omega
          · by_cases hi1 : i < n
            · have hi2 : c + i = L := by omega
              have hv2 : ¬ (c : Int) + (i : Int) < (L : Int) := by omega
              go_wp2_with fail
              go_roundw
              case rel => exact ⟨k + 1, c + i, a, cap, .inr hi2, by omega, by omega, by go_num, rfl, hop, hbw⟩
              case measure => simp [lenV]; omega
            · obtain rfl : i = n := by omega
              go_wp2_with fail
              go_roundw
              case rel => exact ⟨k + 1, c + i, a, cap, .inl (by rw [Nat.add_mul, HK.out]; omega), by omega, by omega, by go_num, rfl, hop, hbw⟩
              case measure => simp [lenV]; omega
      · obtain ⟨sz, hsz0⟩ : ∃ sz, s.size = sz := ⟨_, rfl⟩
        rw [hsz0] at hs
        have hs1 : (0 : Int) < (sz : Int) := by omega
        obtain ⟨g, hg⟩ : ∃ g, k % sz = g := ⟨_, rfl⟩
        have hgs : g < sz := by rw [← hg]; exact Nat.mod_lt _ (by omega)
        have q4 : (k : Int).tmod (sz : Int) = (g : Int) := by rw [Int.tmod_eq_emod_of_nonneg (by omega), ← hg]; push_cast; rfl
        have q5 : (k : Int) % (sz : Int) = (g : Int) := by rw [← hg]; push_cast; rfl
        have hgs2 : g < s.size := by omega
        have hbv : (s[g].toNat : Nat) = b := by
          rw [← HB.out]
          unfold ob
          rw [if_neg (by omega), hsz0, hg]
          have h2 : g < s.data.size := hgs2
          simp only [Array.getD, dif_pos h2]
          rfl
        have hbw2 : wrap64 ((s[g].toNat : Nat) : Int) = (b : Int) := by rw [hbv]; unfold wrap64; omega
        have hdz : decide (0 < sz) = true := by simp; omega
        have hk0 : ((sz : Int) == 0) = false := by simp; omega
        have hk1 : ¬ (sz : Int) = 0 := by omega
        have hk2 : ¬ sz = 0 := by omega
        have hk3 : (0 : Int) ≤ (g : Int) := by omega
        have hk4 : (g : Int) < (sz : Int) := by omega
        have hk5 : (g : Int).toNat = g := by omega
        have HBV := Lib.hid hbv
        clear hbv hg
        go_wp2_with fail
        rw [hbw2]
        clear hbw2 hk0 hk1 hk2 q4 q5 HBV
        go_loopw [9, 12, 13] (fun l wv iv wr => ∃ (i : Nat) (a : Option Addr) (cap : Nat), i ≤ n ∧ c + i ≤ L ∧ iv = .int .i64 (i : Int) ∧ wv = .int .i64 ((wi b n f i : Nat) : Int) ∧ l = .slice a (c + i) cap ∧ Hid (OP wr w.heap.size (.slice a (c + i) cap) (tps s n (c + i))) ∧ Below w.heap.size w wr) (fun _ _ iv _ => n - (intOf iv).toNat)
        case atStart => exact ⟨0, a, cap, by omega, by omega, rfl, by rw [wi_zero b n f hfn], rfl, hop, hbw⟩
        case round =>
          clear hop hbw
          obtain ⟨i, a, cap, hin, hciL, rfl, rfl, rfl, hop, hbw⟩ := hrel
          have hpos := wi_lt b n f i hn1
          by_cases hst : i < n ∧ c + i < L
          · obtain ⟨hi1, hi2⟩ := hst
            have hT : tps s n (c + (i + 1)) = tps s n (c + i) ++ [(((wi b n f i : Nat) : Int), (f : Int))] := by
              rw [show c + (i + 1) = (c + i) + 1 by omega, tps_succ]
              have e1 : tn (ob s) n (c + i) = wi b n f i := by rw [← HK.out, wi_tn s n k i hi1, HB.out, HF.out]
              have e2 : (c + i) / n = k := by rw [← HK.out, Nat.mul_comm, Nat.mul_add_div (by omega), Nat.div_eq_of_lt hi1]; omega
              rw [e1, e2, HF2.out]
            obtain ⟨x, hx⟩ : ∃ x, wi b n f i = x := ⟨_, rfl⟩
            obtain ⟨y, hy⟩ : ∃ y, wi b n f (i + 1) = y := ⟨_, rfl⟩
            rw [hx] at hT hpos ⊢
            have HT : Hid (tps s n (c + i) ++ [((x : Int), (f : Int))] = tps s n (c + (i + 1))) := Lib.hid hT.symm
            have HXV := Lib.hid hx
            have HY := Lib.hid hy
            clear hT hx hy
            have hop2 : OP wr w.heap.size (.slice a (c + i) cap) (tps s n (c + i)) := hop.out
            have H1 : Hid (OP (wr.alloc (.cells #[.int .i64 (x : Int), .int .i64 (f : Int)] 90)) w.heap.size (.slice a (c + i) cap) (tps s n (c + i))) := Lib.hid (hop2.below (by go_grown))
            have hsz1 : w.heap.size ≤ (wr.alloc (.cells #[.int .i64 (x : Int), .int .i64 (f : Int)] 90)).heap.size := by have := hbw.size; simp; omega
            have HC0 : Hid ((wr.alloc (.cells #[.int .i64 (x : Int), .int .i64 (f : Int)] 90)).cell? ⟨wr.heap.size, 0, none⟩ = some (.int .i64 (x : Int))) := Lib.hid (by go_simp)
            have HC1 : Hid ((wr.alloc (.cells #[.int .i64 (x : Int), .int .i64 (f : Int)] 90)).cell? ⟨wr.heap.size, 1, none⟩ = some (.int .i64 (f : Int))) := Lib.hid (by go_simp)
            have hsm1 : (tps s n (c + i)).length ≤ 1100000 := by rw [tps_len]; omega
            have HSM := Lib.hid hsm1
            clear hsm1
            have hv1 : (i : Int) < (n : Int) := by omega
            have hv2 : ((c + i : Nat) : Int) < (L : Int) := by omega
            clear hop2
            · by_cases hb8 : 128 ≤ b
              · have hb9 : ¬ (b : Int) < 128 := by omega
                have hmv : ((x : Int) + (n : Int) - 1).tmod (n : Int) = (y : Int) := by
                  rw [Int.tmod_eq_emod_of_nonneg (by omega), ← HY.out, ← wi_bwd b n f i (by omega) hi1, HXV.out, show (x : Int) + (n : Int) - 1 = ((x + n - 1 : Nat) : Int) by omega]; push_cast; rfl
                have hmv2 : ((x : Int) + (n : Int) - 1) % (n : Int) = (y : Int) := by
                  rw [← HY.out, ← wi_bwd b n f i (by omega) hi1, HXV.out, show (x : Int) + (n : Int) - 1 = ((x + n - 1 : Nat) : Int) by omega]; push_cast; rfl
                go_wp2_with (at_builtin; refine wpList_appP rfl _ _ rfl w.heap.size (.slice a (c + i) cap) (tps s n (c + i)) ((x : Int), (f : Int)) rfl wr.heap.size 1 rfl H1.out HC0.out HC1.out HSM.out hsz1 ?_)
                intro v' w' ho2 hg2 _
                obtain ⟨a2, cap2, rfl, _⟩ := ho2.out.form
                have hb2' : Below w.heap.size w w' := (hbw.alloc hbw.size _).grown hg2 hsz1 (fun k e => (H1.out.lt k e).1)
                have H2 : Hid (OP w' w.heap.size (.slice a2 (c + (i + 1)) cap2) (tps s n (c + (i + 1)))) := Lib.hid (by
                  have h := ho2.out
                  rw [HT.out] at h
                  rw [tps_len] at h
                  exact h)
                have hLen : (tps s n (c + i) ++ [((x : Int), (f : Int))]).length = c + (i + 1) := by rw [HT.out, tps_len]
                rw [hLen]
                clear ho2 hg2 hop H1 hLen HC0 HC1 hsz1
                go_wp2_with fail
                go_roundw
                case rel => exact ⟨i + 1, a2, cap2, by omega, by omega, by go_num, by rw [HY.out], rfl, H2, hb2'⟩
                case measure => simp [intOf]; omega
              · have hb9 : (b : Int) < 128 := by omega
                have hmv : ((x : Int) + 1).tmod (n : Int) = (y : Int) := by rw [Int.tmod_eq_emod_of_nonneg (by omega), ← HY.out, ← HXV.out, ← wi_fwd b n f i (by omega)]; push_cast; rfl
                have hmv2 : ((x : Int) + 1) % (n : Int) = (y : Int) := by rw [← HY.out, ← HXV.out, ← wi_fwd b n f i (by omega)]; push_cast; rfl
                go_wp2_with (at_builtin; refine wpList_appP rfl _ _ rfl w.heap.size (.slice a (c + i) cap) (tps s n (c + i)) ((x : Int), (f : Int)) rfl wr.heap.size 1 rfl H1.out HC0.out HC1.out HSM.out hsz1 ?_)
                intro v' w' ho2 hg2 _
                obtain ⟨a2, cap2, rfl, _⟩ := ho2.out.form
                have hb2' : Below w.heap.size w w' := (hbw.alloc hbw.size _).grown hg2 hsz1 (fun k e => (H1.out.lt k e).1)
                have H2 : Hid (OP w' w.heap.size (.slice a2 (c + (i + 1)) cap2) (tps s n (c + (i + 1)))) := Lib.hid (by
                  have h := ho2.out
                  rw [HT.out] at h
                  rw [tps_len] at h
                  exact h)
                have hLen : (tps s n (c + i) ++ [((x : Int), (f : Int))]).length = c + (i + 1) := by rw [HT.out, tps_len]
                rw [hLen]
                clear ho2 hg2 hop H1 hLen HC0 HC1 hsz1
                go_wp2_with fail
                go_roundw
                case rel => exact ⟨i + 1, a2, cap2, by omega, by omega, by go_num, by rw [HY.out], rfl, H2, hb2'⟩
                case measure => simp [intOf]; omega
          · by_cases hi1 : i < n
            · have hi2 : c + i = L := by omega
              have hv2 : ¬ (c : Int) + (i : Int) < (L : Int) := by omega
              go_wp2_with fail
              go_roundw
              case rel => exact ⟨k + 1, c + i, a, cap, .inr hi2, by omega, by omega, by go_num, rfl, hop, hbw⟩
              case measure => simp [lenV]; omega
            · obtain rfl : i = n := by omega
              go_wp2_with fail
              go_roundw
              case rel => exact ⟨k + 1, c + i, a, cap, .inl (by rw [Nat.add_mul, HK.out]; omega), by omega, by omega, by go_num, rfl, hop, hbw⟩
              case measure => simp [lenV]; omega
    · obtain rfl : c = L := by omega
      obtain ⟨a', cap', e, hpv, _⟩ := hop.out.form
      rw [tps_len] at e hpv
      cases e
      have HPV := Lib.hid hpv
      clear hpv hop
      go_wp2_with fail
      go_ret
      exact ⟨_, _, rfl, HPV.out, hbw⟩
end Go.Proofs.Ytfigabjcmpakeab
