/- The state of the law StoreSeen: a store that is looked at, one that is not, what was seen and what was to be seen. -/
import Derived.Test.YtfigabjcmpakeaaSeen3
namespace Go.Proofs.Ytfigabjcmpakeaa.sn
open Go.ChangeShapes Go.WideShapes Go.ChangeAt Go.RowKit
open Go.Proofs.Ytfigabjcmpakeaa.fx
open Go.Proofs.Ytfigabjcmpakeaa.storeDoes
set_option linter.unusedVariables false
set_option linter.unusedSimpArgs false
def nx (kd at_ : Int) (ok : Bool) : List SB := if ok = true ∧ kd < 4 then [(at_, decide (0 < kd))] else []
theorem fF_len (xs : List Int) (a m v : Int) : (fillF xs a m v).length = xs.length := by simp [fillF]
theorem duo (kd at_ n o : Int) (xs : List Int) (h0 : 0 ≤ kd) (h4 : kd ≤ 4) (hl : xs.length ≤ 300) (b1 : -9223372036854775808 ≤ at_) (b2 : at_ ≤ 9223372036854775807) (b3 : -9223372036854775808 ≤ n) (b4 : n ≤ 9223372036854775807) :
    ∃ (ys : List Int) (want : Int) (ok : Bool), ys.length = xs.length ∧ (kd = 4 → ok = true) ∧
      (∀ (S g V B : Nat) (vs : Value) (L : List SB) (w0 w : World), HS w0 w S g V B vs xs L → L.length ≤ 1000 → Calls Try.prog 19 #[.pointer (some ⟨S, 0, none⟩), .agg #[.int .i64 kd, .int .i64 at_, .int .i64 n, .int .i64 o]] w fun e w' => e = .returned (.tuple #[.int .i64 want, .bool ok]) ∧ HP w0 w S g V B vs ys (L ++ nx kd at_ ok) w') ∧
      (∀ (S g : Nat) (w0 w : World), J w0 w S g xs → Calls Try.prog 19 #[.pointer (some ⟨S, 0, none⟩), .agg #[.int .i64 kd, .int .i64 at_, .int .i64 n, .int .i64 o]] w fun e w' => e = .returned (.tuple #[.int .i64 want, .bool ok]) ∧ J w0 w' S g ys ∧ Keep g w w') := by
  rcases (show kd = 0 ∨ kd = 1 ∨ kd = 2 ∨ kd = 3 ∨ kd = 4 by omega) with rfl | rfl | rfl | rfl | rfl
  · by_cases hat : at_ < 0 ∨ (xs.length : Int) ≤ at_
    · exact ⟨xs, 0, false, rfl, by decide, fun S g V B vs L w0 w h hL => by rw [show nx 0 at_ false = [] from rfl, List.append_nil]; exact dh_out_0 at_ n o h hl hL (Lib.hid hat), fun S g w0 w h => do_out_0 S g xs at_ n o w0 w h hl (Lib.hid hat)⟩
    · obtain ⟨i, rfl⟩ := Int.eq_ofNat_of_zero_le (show 0 ≤ at_ by omega)
      have hi : i < xs.length := by omega
      exact ⟨xs, _, true, rfl, by decide, fun S g V B vs L w0 w h hL => by rw [show nx 0 (i : Int) true = [((i : Int), false)] from rfl]; exact dh_0 i _ n o h hl hL hi (Lib.hid rfl), fun S g w0 w h => do_0 S g xs i _ (Lib.hid rfl) n o w0 w h hl hi⟩
  · by_cases hat : at_ < 0 ∨ (xs.length : Int) ≤ at_
    · exact ⟨xs, 0, false, rfl, by decide, fun S g V B vs L w0 w h hL => by rw [show nx 1 at_ false = [] from rfl, List.append_nil]; exact dh_out_1 at_ n o h hl hL (Lib.hid hat), fun S g w0 w h => do_out_1 S g xs at_ n o w0 w h hl (Lib.hid hat)⟩
    · obtain ⟨i, rfl⟩ := Int.eq_ofNat_of_zero_le (show 0 ≤ at_ by omega)
      have hi : i < xs.length := by omega
      exact ⟨xs.set i n, 0, true, by simp, by decide, fun S g V B vs L w0 w h hL => by rw [show nx 1 (i : Int) true = [((i : Int), true)] from rfl]; exact dh_1 i _ n o h hl hL hi (Lib.hid rfl), fun S g w0 w h => do_1 S g xs i _ (Lib.hid rfl) n o w0 w h hl hi⟩
  · by_cases hat : at_ < 0 ∨ (xs.length : Int) ≤ at_
    · exact ⟨xs, 0, false, rfl, by decide, fun S g V B vs L w0 w h hL => by rw [show nx 2 at_ false = [] from rfl, List.append_nil]; exact dh_out_2 at_ n o h hl hL (Lib.hid hat), fun S g w0 w h => do_out_2 S g xs at_ n o w0 w h hl (Lib.hid hat)⟩
    · obtain ⟨i, rfl⟩ := Int.eq_ofNat_of_zero_le (show 0 ≤ at_ by omega)
      have hi : i < xs.length := by omega
      exact ⟨xs.set i (wrap64 (xs.getD i 0 + n)), _, true, by simp, by decide, fun S g V B vs L w0 w h hL => by rw [show nx 2 (i : Int) true = [((i : Int), true)] from rfl]; exact dh_2 i _ n o h hl hL hi (Lib.hid rfl), fun S g w0 w h => do_2 S g xs i _ (Lib.hid rfl) n o w0 w h hl hi⟩
  · by_cases hat : at_ < 0 ∨ (xs.length : Int) ≤ at_
    · exact ⟨xs, 0, false, rfl, by decide, fun S g V B vs L w0 w h hL => by rw [show nx 3 at_ false = [] from rfl, List.append_nil]; exact dh_out_3 at_ n o h hl hL (Lib.hid hat), fun S g w0 w h => do_out_3 S g xs at_ n o w0 w h hl (Lib.hid hat)⟩
    · obtain ⟨i, rfl⟩ := Int.eq_ofNat_of_zero_le (show 0 ≤ at_ by omega)
      have hi : i < xs.length := by omega
      by_cases ho : xs.getD i 0 = o
      · exact ⟨xs.set i n, o, true, by simp, by decide, fun S g V B vs L w0 w h hL => by rw [show nx 3 (i : Int) true = [((i : Int), true)] from rfl]; exact dh_3y i n o h hl hL hi (Lib.hid ho), fun S g w0 w h => do_3y S g xs i n o w0 w h hl hi (Lib.hid ho)⟩
      · exact ⟨xs, _, true, rfl, by decide, fun S g V B vs L w0 w h hL => by rw [show nx 3 (i : Int) true = [((i : Int), true)] from rfl]; exact dh_3n i _ n o h hl hL hi (Lib.hid rfl) (Lib.hid ho), fun S g w0 w h => do_3n S g xs i _ (Lib.hid rfl) n o w0 w h hl hi (Lib.hid ho)⟩
  · exact ⟨fillF xs at_ n o, 0, true, fF_len _ _ _ _, fun _ => rfl, fun S g V B vs L w0 w h hL => by rw [show nx 4 at_ true = [] from rfl, List.append_nil]; exact dh_4 at_ n o h hl hL b1 b2 b3 b4, fun S g w0 w h => do_4 S g xs at_ n o w0 w h hl b1 b2 b3 b4⟩
structure MS (w0 w : World) (S g T t V B : Nat) (vs vw : Value) (xs xt : List Int) (L Lw : List SB) : Prop where
  hs : HS w0 w S g V B vs xs L
  jt : J w0 w T t xt
  rw : w.ownsRow B 42 2 vw Lw.length (prs Lw)
  dj : T < B ∧ t < B ∧ T ≠ g ∧ T ≠ V ∧ t ≠ g ∧ t ≠ V ∧ S ≠ t
  ap : ∀ k, vs.ownBlock = some k → vw.ownBlock ≠ some k
theorem HS.of {w0 w w' : World} {S g V B : Nat} {vs : Value} {xs : List Int} {L : List SB} (h : HS w0 w S g V B vs xs L) (hb : Below w0.heap.size w0 w') (hz : w.heap.size ≤ w'.heap.size) (hS : w'.heap[S]? = w.heap[S]?) (hg : w'.heap[g]? = w.heap[g]?) (hV : w'.heap[V]? = w.heap[V]?) (hr : ∀ k, vs.ownBlock = some k → w'.heap[k]? = w.heap[k]?) : HS w0 w' S g V B vs xs L :=
  ⟨⟨hS.trans h.st.1, hg.trans h.st.2.1, h.st.2.2⟩, h.sn.keep hb hz hV hr, h.lt⟩
theorem J.of {w0 w w' : World} {T t : Nat} {xs : List Int} (h : J w0 w T t xs) (hb : Below w0.heap.size w0 w') (hT : w'.heap[T]? = w.heap[T]?) (ht : w'.heap[t]? = w.heap[t]?) : J w0 w' T t xs :=
  ⟨⟨hT.trans h.1.1, ht.trans h.1.2.1, h.1.2.2⟩, hb, h.2.2⟩
variable {w0 w w' : World} {S g T t V B : Nat} {vs vw vw' : Value} {xs xt yt : List Int} {L Lw Lw' : List SB}
theorem MS.below (h : MS w0 w S g T t V B vs vw xs xt L Lw) (hb : Below w.heap.size w w') : MS w0 w' S g T t V B vs vw xs xt L Lw :=
  ⟨h.hs.below hb, h.jt.below hb, row_keptS h.rw fun k e => hb.block k (h.rw.lt k e).2, h.dj, h.ap⟩
theorem MS.doS (h : MS w0 w S g T t V B vs vw xs xt L Lw) (hp : HP w0 w S g V B vs yt Lw' w') : ∃ vs', MS w0 w' S g T t V B vs' vw yt xt Lw' Lw ∧ KG g V vs.ownBlock w w' := by
  obtain ⟨vs', h1, hk, ho⟩ := hp
  obtain ⟨d1, d2, d3, d4, d5, d6, d7⟩ := h.dj
  have hB := h.hs.sn.lt
  have hn : ∀ k, k < B → some k ≠ vs.ownBlock := fun k hk e => by have := (h.hs.sn.v.lt k e.symm).1; omega
  refine ⟨vs', ⟨h1, J.of h.jt h1.sn.bl (hk.2 T (by omega) d3 d4 (hn T d1)) (hk.2 t (by omega) d5 d6 (hn t d2)), row_keptS h.rw fun k e => ?_, h.dj, fun k e e2 => ?_⟩, hk⟩
  · have := h.rw.lt k e
    exact hk.2 k this.2 (by have := h.hs.lt; omega) (by omega) (fun e2 => h.ap k e2.symm e)
  · rcases ho with ho | ⟨q, ho, hq⟩
    · exact h.ap k (ho ▸ e) e2
    · have := (h.rw.lt k e2).2
      rw [e] at ho; cases ho; omega
theorem MS.doT (h : MS w0 w S g T t V B vs vw xs xt L Lw) (hj : J w0 w' T t yt) (hk : Keep t w w') : MS w0 w' S g T t V B vs vw xs yt L Lw := by
  obtain ⟨d1, d2, d3, d4, d5, d6, d7⟩ := h.dj
  have hB := h.hs.sn.lt
  have hl := h.hs.lt
  refine ⟨h.hs.of hj.2.1 hk.1 (hk.2 S (by omega) d7) (hk.2 g (by omega) (fun e => d5 e.symm)) (hk.2 V (by omega) (fun e => d6 e.symm)) (fun k e => hk.2 k (h.hs.sn.v.lt k e).2 (by have := (h.hs.sn.v.lt k e).1; omega)), hj, row_keptS h.rw fun k e => hk.2 k (h.rw.lt k e).2 (by have := (h.rw.lt k e).1; omega), h.dj, h.ap⟩
theorem MS.app (h : MS w0 w S g T t V B vs vw xs xt L Lw) (o : Obj) (hr : w'.ownsRow B 42 2 vw' Lw'.length (prs Lw')) (hg : (w.alloc o).grownBy w' vw.ownBlock) (ho : vw'.ownBlock = vw.ownBlock ∨ vw'.ownBlock = some (w.alloc o).heap.size) : MS w0 w' S g T t V B vs vw' xs xt L Lw' := by
  have h2 : MS w0 (w.alloc o) S g T t V B vs vw xs xt L Lw := h.below ((Below.refl _ _).alloc (Nat.le_refl _) _)
  obtain ⟨d1, d2, d3, d4, d5, d6, d7⟩ := h2.dj
  have hB := h2.hs.sn.lt
  have hl := h2.hs.lt
  have hne : ∀ k, vw.ownBlock = some k → B ≤ k := fun k e => (h2.rw.lt k e).1
  have hb : Below B (w.alloc o) w' := (Below.refl _ _).grown hg hB.2.2.2 hne
  have hb0 : Below w0.heap.size w0 w' := h2.hs.sn.bl.trans (hb.mono hB.2.2.1)
  refine ⟨h2.hs.of hb0 hb.size (hb.block S hl.1) (hb.block g hl.2.1) (hb.block V hB.1) (fun k e => hg.block k (h2.hs.sn.v.lt k e).2 (fun e2 => h2.ap k e e2.symm)), J.of h2.jt hb0 (hb.block T d1) (hb.block t d2), hr, h2.dj, fun k e e2 => ?_⟩
  rcases ho with ho | ho
  · exact h2.ap k e (ho ▸ e2)
  · have := (h2.hs.sn.v.lt k e).2
    rw [e2] at ho; cases ho; omega
theorem keep_cell {g V : Nat} {r : Option Nat} {w w' : World} {O i : Nat} {v : Value} (h : KG g V r w w') (hc : w.cell? ⟨O, i, none⟩ = some v) (h1 : O ≠ g) (h2 : O ≠ V) (h3 : some O ≠ r) : w'.cell? ⟨O, i, none⟩ = some v :=
  (cell_heap (h.2 O (World.block_lt_of_cell? w _ hc) h1 h2 h3)).trans hc
end Go.Proofs.Ytfigabjcmpakeaa.sn
