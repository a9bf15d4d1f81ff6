/- A script as bytes: the contract of Bytes (layer 36). -/
import Derived.Test.YtfigabjcmpakeabPickC
import Derived.Maps.AppendAt
import Derived.Laws.IdiomStrings
namespace Go.Proofs.Ytfigabjcmpakeab
open Go.ChangeShapes Go.WideShapes Go.ChangeAt Go.RowKit
set_option linter.unusedVariables false
set_option linter.unusedSimpArgs false
def bt (x : Int) : UInt8 := UInt8.ofNat (x % 256).toNat
theorem bt_val (x : Int) : IntKind.u8.wrap x = (((bt x).toNat : Nat) : Int) := by
  unfold bt
  rw [UInt8.toNat_ofNat']
  have h1 := Int.emod_nonneg x (show (256 : Int) ≠ 0 by decide)
  have h2 := Int.emod_lt_of_pos x (show (0 : Int) < 256 by decide)
  simp [IntKind.wrap, IntKind.bits, IntKind.signed]
  omega
theorem bt_id (b : UInt8) : bt (b.toNat : Int) = b := by
  unfold bt
  have := b.toNat_lt
  rw [show ((b.toNat : Int) % 256).toNat = b.toNat by omega]
  exact UInt8.ofNat_toNat
def byv (xs : List PK) : List UInt8 := xs.flatMap fun p => [bt p.1, bt p.2]
theorem byv_len (xs : List PK) : (byv xs).length = 2 * xs.length := by
  induction xs with
  | nil => rfl
  | cons p l ih => rw [byv, List.flatMap_cons, List.length_append, ← byv, ih]; simp; omega
theorem byv_snoc (xs : List PK) (p : PK) : byv (xs ++ [p]) = byv xs ++ [bt p.1, bt p.2] := by simp [byv]
def bytesV (l : List UInt8) : List Value := l.map fun b => .int .u8 (b.toNat : Int)
theorem infoU8 : (Try.prog.info? 5).map (fun i => (i.zero, i.size, i.bytes)) = some (some (.int .u8 0), 1, 1) := by kernel_rfl
theorem wpList_appB {ops : Array Oper} {rest : List Oper} {o : Oper} {a : Act} {w : World} {Q : Exit → Act → World → Prop} (hgd : o.guard = none) (s x : Operand)
    (ho : o.op = .call { callee := .builtin .append, args := #[s, x], argTypes := #[40, 40] })
    (B : Nat) (v : Value) (l : List UInt8) (hs : a.eval s = v) (blk c : Nat) (hx : a.eval x = .slice (some ⟨blk, 0, none⟩) 2 c) (p q : UInt8) (hown : w.ownsRow B 5 1 v l.length (bytesV l)) (hu0 : w.cell? ⟨blk, 0, none⟩ = some (.int .u8 (p.toNat : Int))) (hu1 : w.cell? ⟨blk, 1, none⟩ = some (.int .u8 (q.toNat : Int))) (hsm : l.length ≤ 1000000) (hB : B ≤ w.heap.size)
    (h : ∀ v' w', Hid (w'.ownsRow B 5 1 v' (l ++ [p, q]).length (bytesV (l ++ [p, q]))) → w.grownBy w' v.ownBlock → (v'.ownBlock = v.ownBlock ∨ v'.ownBlock = some w.heap.size) → wpList Try.prog ops Q rest (a.put o.dst v') w') : wpList Try.prog ops Q (o :: rest) a w :=
  wpList_plain hgd fun _ hK => by
    obtain ⟨i0, hi, hz0, hz1, hz2⟩ := info_parts infoU8
    obtain ⟨v', w', hr, h2, h3, _, h4⟩ := run_append_own_at (P := Try.prog) w B 40 o.type 5 i0 (.int .u8 0) 1 1 Try.underlying40 hi hz0 hz1 hz2 rfl (by decide) v l.length _ hown ⟨blk, 0, none⟩ 2 c [.int .u8 (p.toNat : Int), .int .u8 (q.toNat : Int)] rfl (by
      intro j x hj
      rw [Go.WideShapes.add_plain]
      match j, hj with
      | 0, hj => simp at hj; subst hj; exact hu0
      | 1, hj => simp at hj; subst hj; exact hu1) (by intro u hu; simp at hu; rcases hu with rfl | rfl <;> rfl) (by unfold maxLen; omega) (by omega) hB
    unfold Oper.wp execOp
    simp only [ho, resolve, invoke, builtin, Sem.run_bind, Sem.run_pure, Result.andThen_ok, List.map_toArray, List.map_cons, List.map_nil, hs, hx, hr]
    exact hK _ _ (h v' w' (Lib.hid (by simpa [bytesV] using h2)) h3 h4)
theorem row_some {w : World} {base e sz : Nat} {v : Value} {n : Nat} {xs : List Value} (h : w.ownsRow base e sz v n xs) (hn : 0 < n) : ∃ g cap, v = .slice (some ⟨g, 0, none⟩) n cap := by
  obtain ⟨_, ⟨rfl, h0⟩ | ⟨g, cap, cur, rfl, hg, hh, h1, _⟩⟩ := h
  · omega
  · exact ⟨g, cap, rfl⟩
theorem row_keep {w w' : World} {base e sz : Nat} {v : Value} {n : Nat} {xs : List Value} (h : w.ownsRow base e sz v n xs) (hb : Below w.heap.size w w') : w'.ownsRow base e sz v n xs := by
  have hlt := h.lt
  obtain ⟨hl, h⟩ := h
  refine ⟨hl, ?_⟩
  rcases h with h | ⟨g, cap, cur, rfl, hg, hh, h1, h2, h3, h4⟩
  · exact .inl h
  · exact .inr ⟨g, cap, cur, rfl, hg, (hb.block g (hlt g rfl).2).trans hh, h1, h2, h3, h4⟩
theorem back_of {w : World} {B g n cap : Nat} {l : List UInt8} (h : w.ownsRow B 5 1 (.slice (some ⟨g, 0, none⟩) n cap) n (bytesV l)) : (convert 40 9 (.slice (some ⟨g, 0, none⟩) n cap)).run Try.prog w = .ok (.string ⟨l.toArray⟩) w := by
  have hl := h.1
  simp [bytesV] at hl
  subst hl
  refine run_convert_bytes_back (P := Try.prog) w 40 9 5 ⟨g, 0, none⟩ cap l Try.underlying40 Try.underlying5 Try.underlying9 ?_
  intro j hj
  exact h.cells rfl j _ (by simp [bytesV, hj])
set_option maxRecDepth 20000 in
set_option maxHeartbeats 4000000 in
theorem bytes_of (a : Option Addr) (L cap : Nat) (xs : List PK) (w : World) (hx : PV w a L cap xs) (hL : L ≤ 100000) :
    Calls Try.prog 81 #[.slice a L cap] w fun e w' => e = .returned (.string ⟨(byv xs).toArray⟩) ∧ Below w.heap.size w w' := by
  have hmk : ∀ w, (Instr.makeSlice 40 (.int .i64 0) (.int .i64 (2 * (L : Int)))).run Try.prog w = .ok (.slice (some ⟨w.heap.size, 0, none⟩) 0 (2 * L)) (w.alloc (.cells (madeCells #[.int .u8 0] (2 * L)) 5)) := by
    intro w
    obtain ⟨i, hi, hz0, hz1, hz2⟩ := info_parts infoU8
    have hr := run_make (P := Try.prog) w 40 5 i _ Try.underlying40 hi hz0 .i64 .i64 0 (2 * (L : Int)) (by omega) (by omega) (by rw [hz2]; omega) (by omega)
    rw [hz1, show (2 * (L : Int)).toNat = 2 * L by omega, Nat.mul_one] at hr
    exact hr
  have HX := Lib.hid hx
  clear hx
  go_enter Try.func81, Try.ntmps81
  go_wp2_with fail
  obtain ⟨W, hW⟩ : ∃ W, W = w.alloc (.cells (madeCells #[.int .u8 0] (2 * L)) 5) := ⟨_, rfl⟩
  have hb : Below w.heap.size w W := by rw [hW]; go_grown
  have hr : W.ownsRow w.heap.size 5 1 (.slice (some ⟨w.heap.size, 0, none⟩) 0 (2 * L)) 0 [] := by
    rw [hW]
    exact World.ownsRow_made w _ _ (Nat.le_refl _) (by unfold maxLen; omega) (by rw [size_madeCells, Nat.mul_one])
  have HR := Lib.hid hr
  rw [← hW]
  clear hW hmk hr
  go_loopw [3, 12] (fun v i wr => ∃ (k g cp : Nat), k ≤ L ∧ i = .int .i64 (k : Int) ∧ v = .slice (some ⟨g, 0, none⟩) (2 * k) cp ∧ Hid (wr.ownsRow w.heap.size 5 1 (.slice (some ⟨g, 0, none⟩) (2 * k) cp) (2 * k) (bytesV (byv (xs.take k)))) ∧ Below w.heap.size w wr) (fun _ i _ => L - (intOf i).toNat)
  case atStart => exact ⟨0, _, _, by omega, rfl, rfl, HR, hb⟩
  case round =>
    clear HR hb
    obtain ⟨k, g, cp, hk, rfl, rfl, hrow, hbw⟩ := hrel
    by_cases hlt : k < L
    · have hxl : k < xs.length := by rw [HX.out.1]; exact hlt
      obtain ⟨⟨x1, x2⟩, ex⟩ : ∃ p, xs[k]? = some p := ⟨xs[k], by simp⟩
      obtain ⟨ba, oa, rfl, hba, g0, g1⟩ := HX.out.2.2 k _ ex
      replace g0 := (hbw.cell (p := ⟨ba, oa + k * 2, none⟩) hba).trans g0
      replace g1 := (hbw.cell (p := ⟨ba, oa + k * 2 + 1, none⟩) hba).trans g1
      dsimp only at g0 g1
      have HT : Hid (xs.take (k + 1) = xs.take k ++ [(x1, x2)]) := Lib.hid (by
        rw [List.take_succ_eq_append_getElem hxl]
        rw [List.getElem?_eq_getElem hxl] at ex
        rw [Option.some.inj ex])
      have v1 := bt_val x1
      have v2 := bt_val x2
      obtain ⟨p, hp⟩ : ∃ p, bt x1 = p := ⟨_, rfl⟩
      obtain ⟨q, hq⟩ : ∃ q, bt x2 = q := ⟨_, rfl⟩
      rw [hp] at v1
      rw [hq] at v2
      have HP := Lib.hid hp
      have HQ := Lib.hid hq
      have hbl : (byv (xs.take k)).length = 2 * k := by rw [byv_len, List.length_take]; omega
      have HB := Lib.hid hbl
      clear hp hq ex hbl
      obtain ⟨W1, hW1⟩ : ∃ W1, W1 = (wr.alloc (.cells #[.int .i64 x1, .int .i64 x2] 90)).alloc (.cells #[.int .u8 (p.toNat : Int), .int .u8 (q.toNat : Int)] 5) := ⟨_, rfl⟩
      have hb1 : Below wr.heap.size wr W1 := by rw [hW1]; go_grown
      have hr1 := row_keep hrow.out hb1
      have c0 : W1.cell? ⟨wr.heap.size + 1, 0, none⟩ = some (.int .u8 (p.toNat : Int)) := by rw [hW1]; go_simp
      have c1 : W1.cell? ⟨wr.heap.size + 1, 1, none⟩ = some (.int .u8 (q.toNat : Int)) := by rw [hW1]; go_simp
      have hsz1 : w.heap.size ≤ W1.heap.size := Nat.le_trans hbw.size hb1.size
      have H1 : Hid (W1.ownsRow w.heap.size 5 1 (.slice (some ⟨g, 0, none⟩) (2 * k) cp) (byv (xs.take k)).length (bytesV (byv (xs.take k)))) := Lib.hid (by rw [HB.out]; exact hr1)
      have hb1' := hbw.trans (hb1.mono hbw.size)
      clear hr1 hrow
      go_wp2_with (at_builtin; refine wpList_appB rfl _ _ rfl w.heap.size _ (byv (xs.take k)) rfl (wr.heap.size + 1) 2 rfl p q (by rw [← hW1]; exact H1.out) (by rw [← hW1]; exact c0) (by rw [← hW1]; exact c1) (by rw [HB.out]; omega) (by rw [← hW1]; exact hsz1) ?_)
      intro v' w' hr' hg ho
      rw [← hW1] at hg
      obtain ⟨g', cp', rfl⟩ := row_some hr'.out (by simp)
      have hb2 : Below w.heap.size w w' := hb1'.grown hg hsz1 (fun j e => (H1.out.lt j e).1)
      have HL : Hid ((byv (xs.take k) ++ [p, q]).length = 2 * (k + 1)) := Lib.hid (by rw [List.length_append, HB.out]; simp; omega)
      have HE : Hid (byv (xs.take k) ++ [p, q] = byv (xs.take (k + 1))) := Lib.hid (by rw [HT.out, byv_snoc, HP.out, HQ.out])
      clear hW1 c0 c1 g0 g1 hb1 hb1' hsz1 v1 v2 ho hg
      go_wp2_with fail
      go_roundw
      case rel =>
        refine ⟨k + 1, g', cp', by omega, by go_num, ?_, Lib.hid ?_, hb2⟩
        · simp only [HB.out]
          congr 1
        · have := hr'.out
          rw [HE.out, HB.out] at this
          exact this
      case measure => simp [intOf]; omega
    · obtain rfl : k = L := by omega
      have hk2 := back_of hrow.out
      have HE : Hid (xs.take k = xs) := Lib.hid (List.take_of_length_le (by rw [HX.out.1]; omega))
      rw [HE.out] at hk2
      go_wp2_with fail
      go_ret
      exact ⟨rfl, hbw⟩
end Go.Proofs.Ytfigabjcmpakeab
