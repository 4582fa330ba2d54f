/- Contracts of the document's own answers, layer 19: ways, Closed. -/
import Derived.Test.YtneacfhoinaeeaaMa31
import Derived.Test.YtneacfhoinaeeaaMa42
import Derived.Test.YtneacfhoinaeeaaMa13
import Derived.ChangeKeysEq
import Derived.Deep.DeepCutAuto


namespace Go.Proofs.Ytneacfhoinaeeaa
section

open Go.RowKit Go.Proofs.Sky

set_option linter.unusedVariables false

set_option linter.unusedSimpArgs false

theorem vec_eq19 (a1 a2 a3 b1 b2 b3 : Int) (w : World) : (Op.equalIn 10000 23 (.agg #[.int .i64 a1, .int .i64 a2, .int .i64 a3]) (.agg #[.int .i64 b1, .int .i64 b2, .int .i64 b3])).run Try.prog w = .ok (decide ((a1, a2, a3) = (b1, b2, b3))) w := by
  rw [run_equalIn_agg w 9999 23 _ _ (by kernel_rfl) (by kernel_rfl)]
  simp [Op.eqFields, go_sem]
  by_cases h1 : a1 = b1
  · by_cases h2 : a2 = b2
    · by_cases h3 : a3 = b3 <;> simp [h1, h2, h3]
    · simp [h1, h2]
  · simp [h1]

theorem vec_eql19 (a1 a2 a3 b1 b2 b3 : Int) (x y : Operand) (w : World) (ev : Operand → Value) (dst : Option Nat) (t : TypeId) (ps : String) (af : Array Edge) (gd : Option (Nat × Bool)) (hx : ev x = .agg #[.int .i64 a1, .int .i64 a2, .int .i64 a3]) (hy : ev y = .agg #[.int .i64 b1, .int .i64 b2, .int .i64 b3]) :
    (execOp ev { dst := dst, op := .binOp .eql 23 x y 23, type := t, pos := ps, after := af, guard := gd }).run Try.prog w = .ok (.value (.bool (decide ((a1, a2, a3) = (b1, b2, b3))))) w := by
  have e := vec_eq19 a1 a2 a3 b1 b2 b3 w
  have g : Try.prog.eqGuardType Try.prog.depth 23 = false := by kernel_rfl
  simp only [execOp, hx, hy]
  simp [run_eqGuard_agg _ _ _ _ _ _ _ g, run_eql_struct, e]

theorem wpo_eql19 {K : Act → World → Prop} {Q : Exit → Act → World → Prop} {a : Act} {w : World} {dst : Option Nat} {tz : TypeId} {ps : String} {af : Array Edge} {gd : Option (Nat × Bool)} {x y : Operand} {a1 a2 a3 b1 b2 b3 : Int} {z : Bool}
    (hx : a.eval x = .agg #[.int .i64 a1, .int .i64 a2, .int .i64 a3]) (hy : a.eval y = .agg #[.int .i64 b1, .int .i64 b2, .int .i64 b3]) (hz : decide ((a1, a2, a3) = (b1, b2, b3)) = z) (h : K (a.put dst (.bool z)) w) :
    Oper.wp Try.prog { dst := dst, op := .binOp .eql 23 x y 23, type := tz, pos := ps, after := af, guard := gd } a w K Q := by
  unfold Oper.wp
  rw [vec_eql19 a1 a2 a3 b1 b2 b3 x y w a.eval dst tz ps af gd hx hy, hz]
  exact h

theorem ways_next {l : List Pr} {k : Nat} (h : k < l.length) (a b : T3) : wys (l.take (k + 1)) a b = wys (l.take k) a b + (if hasE l[k] a b = true then 1 else 0) := by
  unfold wys
  rw [List.take_add_one, List.getElem?_eq_getElem h, List.countP_append]
  simp [List.countP_cons]

set_option maxRecDepth 100000 in
set_option maxHeartbeats 8000000 in
theorem ref19_ways (v : Value) (l : List Pr) (u1 u2 u3 v1 v2 v3 : Int) (w : World) (hs : Sll w v 12 pcells l) (hn : l.length ≤ 1000000) :
    Calls Try.prog 32 #[v, .agg #[.int .i64 u1, .int .i64 u2, .int .i64 u3], .agg #[.int .i64 v1, .int .i64 v2, .int .i64 v3]] w fun en w' => en = .returned (.int .i64 (wys l (u1, u2, u3) (v1, v2, v3) : Int)) ∧ Below w.heap.size w w' := by
  obtain ⟨a, cap, rfl, hmx, hS⟩ := hs
  obtain ⟨n, hnn⟩ : ∃ n, n = l.length := ⟨_, rfl⟩
  have HNN := Lib.hid hnn
  rw [← hnn] at hn ⊢
  have HS := Lib.hid hS
  clear hS hnn hmx
  go_enter Try.func32, Try.ntmps32
  go_upto_region 1 with (fail)
  obtain ⟨W1, hW1⟩ : ∃ W, W = (w.alloc (.cells #[.int .i64 u1, .int .i64 u2, .int .i64 u3] 23)).alloc (.cells #[.int .i64 v1, .int .i64 v2, .int .i64 v3] 23) := ⟨_, rfl⟩
  obtain ⟨k_a, k_b, B1⟩ := st2 hW1
  rw [← hW1]
  clear hW1
  have l_b : w.heap.size < w.heap.size + 1 := by omega
  generalize w.heap.size + 1 = g_b at *
  go_wp2
  go_loopw [7, 8] (fun u i wr => ∃ (k c : Nat) (q : BW W1), k ≤ n ∧ i = .int .i64 k ∧ u = .int .i64 c ∧ wr = q.w ∧ c ≤ k ∧ Hid (c = wys (l.take k) (u1, u2, u3) (v1, v2, v3))) (fun _ i _ => n - (intOf i).toNat)
  case atStart => exact ⟨0, 0, BW.start W1, by omega, rfl, rfl, rfl, by omega, Lib.hid rfl⟩
  case round =>
    obtain ⟨k, c, q0, hk, rfl, rfl, rfl, hck, hways⟩ := hrel
    by_cases hlt : k < n
    · have hkl : k < l.length := by rw [← HNN.out]; exact hlt
      obtain ⟨gb, off, rfl, hb, hcell⟩ := HS.out.resolve_left (by omega)
      have hx := hcell k hkl
      have B10 := bw_below B1 q0
      have k_a := k_a.below q0.h
      have k_b := k_b.below q0.h
      have hq0 := q0.h
      have x0 : w.cell? ⟨gb, off + k * 12, none⟩ = some (.int .i64 (l[k]).k) := hx 0 (by omega)
      have x1 : w.cell? ⟨gb, off + k * 12 + 1, none⟩ = some (.int .i64 (l[k]).a.1) := hx 1 (by omega)
      have x2 : w.cell? ⟨gb, off + k * 12 + 2, none⟩ = some (.int .i64 (l[k]).a.2.1) := hx 2 (by omega)
      have x3 : w.cell? ⟨gb, off + k * 12 + 3, none⟩ = some (.int .i64 (l[k]).a.2.2) := hx 3 (by omega)
      have x4 : w.cell? ⟨gb, off + k * 12 + 4, none⟩ = some (.int .i64 (l[k]).b.1) := hx 4 (by omega)
      have x5 : w.cell? ⟨gb, off + k * 12 + 5, none⟩ = some (.int .i64 (l[k]).b.2.1) := hx 5 (by omega)
      have x6 : w.cell? ⟨gb, off + k * 12 + 6, none⟩ = some (.int .i64 (l[k]).b.2.2) := hx 6 (by omega)
      have x7 : w.cell? ⟨gb, off + k * 12 + 7, none⟩ = some (.int .i64 (l[k]).c.1) := hx 7 (by omega)
      have x8 : w.cell? ⟨gb, off + k * 12 + 8, none⟩ = some (.int .i64 (l[k]).c.2.1) := hx 8 (by omega)
      have x9 : w.cell? ⟨gb, off + k * 12 + 9, none⟩ = some (.int .i64 (l[k]).c.2.2) := hx 9 (by omega)
      have x10 : w.cell? ⟨gb, off + k * 12 + 10, none⟩ = some (.int .i64 (l[k]).r) := hx 10 (by omega)
      have x11 : w.cell? ⟨gb, off + k * 12 + 11, none⟩ = some (.int .i64 (l[k]).m) := hx 11 (by omega)
      have hwn := ways_next hkl (u1, u2, u3) (v1, v2, v3)
      clear hx hcell
      generalize l[k] = pk at *
      obtain ⟨kk, ⟨a1, a2, a3⟩, ⟨b1, b2, b3⟩, ⟨c1, c2, c3⟩, r, m⟩ := pk
      dsimp only at x0 x1 x2 x3 x4 x5 x6 x7 x8 x9 x10 x11
      obtain ⟨z1, hz1⟩ : ∃ z, decide ((a1, a2, a3) = (u1, u2, u3)) = z := ⟨_, rfl⟩
      obtain ⟨z2, hz2⟩ : ∃ z, decide ((b1, b2, b3) = (v1, v2, v3)) = z := ⟨_, rfl⟩
      obtain ⟨z3, hz3⟩ : ∃ z, decide ((b1, b2, b3) = (u1, u2, u3)) = z := ⟨_, rfl⟩
      obtain ⟨z4, hz4⟩ : ∃ z, decide ((c1, c2, c3) = (v1, v2, v3)) = z := ⟨_, rfl⟩
      obtain ⟨z5, hz5⟩ : ∃ z, decide ((c1, c2, c3) = (u1, u2, u3)) = z := ⟨_, rfl⟩
      obtain ⟨z6, hz6⟩ : ∃ z, decide ((a1, a2, a3) = (v1, v2, v3)) = z := ⟨_, rfl⟩
      have hHas : hasE ⟨kk, (a1, a2, a3), (b1, b2, b3), (c1, c2, c3), r, m⟩ (u1, u2, u3) (v1, v2, v3) = ((z1 && z2) || ((z3 && z4) || (z5 && z6))) := by rw [← hz1, ← hz2, ← hz3, ← hz4, ← hz5, ← hz6]; rfl
      rw [hHas] at hwn
      have HWN := Lib.hid hwn
      have HZ1 := Lib.hid hz1
      have HZ2 := Lib.hid hz2
      have HZ3 := Lib.hid hz3
      have HZ4 := Lib.hid hz4
      have HZ5 := Lib.hid hz5
      have HZ6 := Lib.hid hz6
      clear hHas hwn hz1 hz2 hz3 hz4 hz5 hz6
      obtain ⟨W9, hW9⟩ : ∃ W, W = q0.w := ⟨_, rfl⟩
      rw [← hW9] at k_a k_b B10 hq0 ⊢
      clear hW9
      obtain ⟨c_a_0, c_a_1, c_a_2⟩ := bwc3 (k_a)
      obtain ⟨c_b_0, c_b_1, c_b_2⟩ := bwc3 (k_b)
      have c_x0 : ∀ p : BW W9, p.w.cell? ⟨gb, off + k * 12, none⟩ = some (.int .i64 kk) := bw_cell ((B10.cell (p := ⟨gb, off + k * 12, none⟩) hb).trans x0)
      have c_x1 : ∀ p : BW W9, p.w.cell? ⟨gb, off + k * 12 + 1, none⟩ = some (.int .i64 a1) := bw_cell ((B10.cell (p := ⟨gb, off + k * 12 + 1, none⟩) hb).trans x1)
      have c_x2 : ∀ p : BW W9, p.w.cell? ⟨gb, off + k * 12 + 2, none⟩ = some (.int .i64 a2) := bw_cell ((B10.cell (p := ⟨gb, off + k * 12 + 2, none⟩) hb).trans x2)
      have c_x3 : ∀ p : BW W9, p.w.cell? ⟨gb, off + k * 12 + 3, none⟩ = some (.int .i64 a3) := bw_cell ((B10.cell (p := ⟨gb, off + k * 12 + 3, none⟩) hb).trans x3)
      have c_x4 : ∀ p : BW W9, p.w.cell? ⟨gb, off + k * 12 + 4, none⟩ = some (.int .i64 b1) := bw_cell ((B10.cell (p := ⟨gb, off + k * 12 + 4, none⟩) hb).trans x4)
      have c_x5 : ∀ p : BW W9, p.w.cell? ⟨gb, off + k * 12 + 5, none⟩ = some (.int .i64 b2) := bw_cell ((B10.cell (p := ⟨gb, off + k * 12 + 5, none⟩) hb).trans x5)
      have c_x6 : ∀ p : BW W9, p.w.cell? ⟨gb, off + k * 12 + 6, none⟩ = some (.int .i64 b3) := bw_cell ((B10.cell (p := ⟨gb, off + k * 12 + 6, none⟩) hb).trans x6)
      have c_x7 : ∀ p : BW W9, p.w.cell? ⟨gb, off + k * 12 + 7, none⟩ = some (.int .i64 c1) := bw_cell ((B10.cell (p := ⟨gb, off + k * 12 + 7, none⟩) hb).trans x7)
      have c_x8 : ∀ p : BW W9, p.w.cell? ⟨gb, off + k * 12 + 8, none⟩ = some (.int .i64 c2) := bw_cell ((B10.cell (p := ⟨gb, off + k * 12 + 8, none⟩) hb).trans x8)
      have c_x9 : ∀ p : BW W9, p.w.cell? ⟨gb, off + k * 12 + 9, none⟩ = some (.int .i64 c3) := bw_cell ((B10.cell (p := ⟨gb, off + k * 12 + 9, none⟩) hb).trans x9)
      have c_x10 : ∀ p : BW W9, p.w.cell? ⟨gb, off + k * 12 + 10, none⟩ = some (.int .i64 r) := bw_cell ((B10.cell (p := ⟨gb, off + k * 12 + 10, none⟩) hb).trans x10)
      have c_x11 : ∀ p : BW W9, p.w.cell? ⟨gb, off + k * 12 + 11, none⟩ = some (.int .i64 m) := bw_cell ((B10.cell (p := ⟨gb, off + k * 12 + 11, none⟩) hb).trans x11)
      obtain ⟨p10, hp10⟩ : ∃ p : BW W9, p.w = W9 := ⟨BW.start W9, rfl⟩
      rw [← hp10]
      clear hp10
      go_upto_region 6 with (fail)
      obtain ⟨W11, hW11⟩ : ∃ W, W = p10.w.alloc (.cells #[.int .i64 kk, .int .i64 a1, .int .i64 a2, .int .i64 a3, .int .i64 b1, .int .i64 b2, .int .i64 b3, .int .i64 c1, .int .i64 c2, .int .i64 c3, .int .i64 r, .int .i64 m] 45) := ⟨_, rfl⟩
      have B11 : Below w.heap.size w W11 := by rw [hW11]; exact (bw_below B10 p10).alloc (bw_below B10 p10).size _
      have l_x : g_b < p10.w.heap.size := (k_b.below p10.h).lt
      have o_x : w.heap.size ≤ p10.w.heap.size := (bw_below B10 p10).size
      have k_a := bka hW11 (k_a.below p10.h)
      have k_b := bka hW11 (k_b.below p10.h)
      have k_x := bkn hW11
      have HBX : Below W9.heap.size W9 W11 := by rw [hW11]; exact (Below.trans (p10.h) ((Below.refl p10.w.heap.size p10.w).alloc (Nat.le_refl _) _ |>.mono p10.h.size))
      rw [← hW11]
      clear hW11
      clear B10
      clear c_a_0 c_a_1 c_a_2 c_b_0 c_b_1 c_b_2 c_x0 c_x1 c_x2 c_x3 c_x4 c_x5 c_x6 c_x7 c_x8 c_x9 c_x10 c_x11
      generalize p10.w.heap.size = g_x at *
      obtain ⟨c_a_0, c_a_1, c_a_2⟩ := bwc3 (k_a)
      obtain ⟨c_b_0, c_b_1, c_b_2⟩ := bwc3 (k_b)
      obtain ⟨c_x_0, c_x_1, c_x_2, c_x_3, c_x_4, c_x_5, c_x_6, c_x_7, c_x_8, c_x_9, c_x_10, c_x_11⟩ := bwc12 (k_x)
      obtain ⟨p11, hp11⟩ : ∃ p : BW W11, p.w = W11 := ⟨BW.start W11, rfl⟩
      rw [← hp11]
      clear hp11
      clear x0 x1 x2 x3 x4 x5 x6 x7 x8 x9 x10 x11
      have BX : Below W9.heap.size W9 W11 := HBX
      cases z1 with
      | true =>
        cases z2 with
        | true =>
          repeat (first | go_values | go_skip | go_guarded | ((with_reducible apply wpo_eql19); (case hx => rfl); (case hy => rfl); (case hz => first | exact HZ1.out | exact HZ2.out | exact HZ3.out | exact HZ4.out | exact HZ5.out | exact HZ6.out)) | go_step | go_upon)
          go_wp2
          go_roundw
          case rel => exact ⟨k + 1, c + 1, ⟨p11.w, hq0.trans ((BX.trans (p11.h.mono BX.size)).mono hq0.size)⟩, by omega, by go_num, by go_num, rfl, by omega, Lib.hid (by rw [HWN.out, ← hways.out]; simp)⟩
          case measure => simp [intOf]; omega
        | false =>
          cases z3 with
          | true =>
            cases z4 with
            | true =>
              repeat (first | go_values | go_skip | go_guarded | ((with_reducible apply wpo_eql19); (case hx => rfl); (case hy => rfl); (case hz => first | exact HZ1.out | exact HZ2.out | exact HZ3.out | exact HZ4.out | exact HZ5.out | exact HZ6.out)) | go_step | go_upon)
              go_wp2
              go_roundw
              case rel => exact ⟨k + 1, c + 1, ⟨p11.w, hq0.trans ((BX.trans (p11.h.mono BX.size)).mono hq0.size)⟩, by omega, by go_num, by go_num, rfl, by omega, Lib.hid (by rw [HWN.out, ← hways.out]; simp)⟩
              case measure => simp [intOf]; omega
            | false =>
              cases z5 with
              | true =>
                cases z6 with
                | true =>
                  repeat (first | go_values | go_skip | go_guarded | ((with_reducible apply wpo_eql19); (case hx => rfl); (case hy => rfl); (case hz => first | exact HZ1.out | exact HZ2.out | exact HZ3.out | exact HZ4.out | exact HZ5.out | exact HZ6.out)) | go_step | go_upon)
                  go_wp2
                  go_roundw
                  case rel => exact ⟨k + 1, c + 1, ⟨p11.w, hq0.trans ((BX.trans (p11.h.mono BX.size)).mono hq0.size)⟩, by omega, by go_num, by go_num, rfl, by omega, Lib.hid (by rw [HWN.out, ← hways.out]; simp)⟩
                  case measure => simp [intOf]; omega
                | false =>
                  repeat (first | go_values | go_skip | go_guarded | ((with_reducible apply wpo_eql19); (case hx => rfl); (case hy => rfl); (case hz => first | exact HZ1.out | exact HZ2.out | exact HZ3.out | exact HZ4.out | exact HZ5.out | exact HZ6.out)) | go_step | go_upon)
                  go_wp2
                  go_roundw
                  case rel => exact ⟨k + 1, c, ⟨p11.w, hq0.trans ((BX.trans (p11.h.mono BX.size)).mono hq0.size)⟩, by omega, by go_num, rfl, rfl, by omega, Lib.hid (by rw [HWN.out, ← hways.out]; simp)⟩
                  case measure => simp [intOf]; omega
              | false =>
                repeat (first | go_values | go_skip | go_guarded | ((with_reducible apply wpo_eql19); (case hx => rfl); (case hy => rfl); (case hz => first | exact HZ1.out | exact HZ2.out | exact HZ3.out | exact HZ4.out | exact HZ5.out | exact HZ6.out)) | go_step | go_upon)
                go_wp2
                go_roundw
                case rel => exact ⟨k + 1, c, ⟨p11.w, hq0.trans ((BX.trans (p11.h.mono BX.size)).mono hq0.size)⟩, by omega, by go_num, rfl, rfl, by omega, Lib.hid (by rw [HWN.out, ← hways.out]; simp)⟩
                case measure => simp [intOf]; omega
          | false =>
            cases z5 with
            | true =>
              cases z6 with
              | true =>
                repeat (first | go_values | go_skip | go_guarded | ((with_reducible apply wpo_eql19); (case hx => rfl); (case hy => rfl); (case hz => first | exact HZ1.out | exact HZ2.out | exact HZ3.out | exact HZ4.out | exact HZ5.out | exact HZ6.out)) | go_step | go_upon)
                go_wp2
                go_roundw
                case rel => exact ⟨k + 1, c + 1, ⟨p11.w, hq0.trans ((BX.trans (p11.h.mono BX.size)).mono hq0.size)⟩, by omega, by go_num, by go_num, rfl, by omega, Lib.hid (by rw [HWN.out, ← hways.out]; simp)⟩
                case measure => simp [intOf]; omega
              | false =>
                repeat (first | go_values | go_skip | go_guarded | ((with_reducible apply wpo_eql19); (case hx => rfl); (case hy => rfl); (case hz => first | exact HZ1.out | exact HZ2.out | exact HZ3.out | exact HZ4.out | exact HZ5.out | exact HZ6.out)) | go_step | go_upon)
                go_wp2
                go_roundw
                case rel => exact ⟨k + 1, c, ⟨p11.w, hq0.trans ((BX.trans (p11.h.mono BX.size)).mono hq0.size)⟩, by omega, by go_num, rfl, rfl, by omega, Lib.hid (by rw [HWN.out, ← hways.out]; simp)⟩
                case measure => simp [intOf]; omega
            | false =>
              repeat (first | go_values | go_skip | go_guarded | ((with_reducible apply wpo_eql19); (case hx => rfl); (case hy => rfl); (case hz => first | exact HZ1.out | exact HZ2.out | exact HZ3.out | exact HZ4.out | exact HZ5.out | exact HZ6.out)) | go_step | go_upon)
              go_wp2
              go_roundw
              case rel => exact ⟨k + 1, c, ⟨p11.w, hq0.trans ((BX.trans (p11.h.mono BX.size)).mono hq0.size)⟩, by omega, by go_num, rfl, rfl, by omega, Lib.hid (by rw [HWN.out, ← hways.out]; simp)⟩
              case measure => simp [intOf]; omega
      | false =>
        cases z3 with
        | true =>
          cases z4 with
          | true =>
            repeat (first | go_values | go_skip | go_guarded | ((with_reducible apply wpo_eql19); (case hx => rfl); (case hy => rfl); (case hz => first | exact HZ1.out | exact HZ2.out | exact HZ3.out | exact HZ4.out | exact HZ5.out | exact HZ6.out)) | go_step | go_upon)
            go_wp2
            go_roundw
            case rel => exact ⟨k + 1, c + 1, ⟨p11.w, hq0.trans ((BX.trans (p11.h.mono BX.size)).mono hq0.size)⟩, by omega, by go_num, by go_num, rfl, by omega, Lib.hid (by rw [HWN.out, ← hways.out]; simp)⟩
            case measure => simp [intOf]; omega
          | false =>
            cases z5 with
            | true =>
              cases z6 with
              | true =>
                repeat (first | go_values | go_skip | go_guarded | ((with_reducible apply wpo_eql19); (case hx => rfl); (case hy => rfl); (case hz => first | exact HZ1.out | exact HZ2.out | exact HZ3.out | exact HZ4.out | exact HZ5.out | exact HZ6.out)) | go_step | go_upon)
                go_wp2
                go_roundw
                case rel => exact ⟨k + 1, c + 1, ⟨p11.w, hq0.trans ((BX.trans (p11.h.mono BX.size)).mono hq0.size)⟩, by omega, by go_num, by go_num, rfl, by omega, Lib.hid (by rw [HWN.out, ← hways.out]; simp)⟩
                case measure => simp [intOf]; omega
              | false =>
                repeat (first | go_values | go_skip | go_guarded | ((with_reducible apply wpo_eql19); (case hx => rfl); (case hy => rfl); (case hz => first | exact HZ1.out | exact HZ2.out | exact HZ3.out | exact HZ4.out | exact HZ5.out | exact HZ6.out)) | go_step | go_upon)
                go_wp2
                go_roundw
                case rel => exact ⟨k + 1, c, ⟨p11.w, hq0.trans ((BX.trans (p11.h.mono BX.size)).mono hq0.size)⟩, by omega, by go_num, rfl, rfl, by omega, Lib.hid (by rw [HWN.out, ← hways.out]; simp)⟩
                case measure => simp [intOf]; omega
            | false =>
              repeat (first | go_values | go_skip | go_guarded | ((with_reducible apply wpo_eql19); (case hx => rfl); (case hy => rfl); (case hz => first | exact HZ1.out | exact HZ2.out | exact HZ3.out | exact HZ4.out | exact HZ5.out | exact HZ6.out)) | go_step | go_upon)
              go_wp2
              go_roundw
              case rel => exact ⟨k + 1, c, ⟨p11.w, hq0.trans ((BX.trans (p11.h.mono BX.size)).mono hq0.size)⟩, by omega, by go_num, rfl, rfl, by omega, Lib.hid (by rw [HWN.out, ← hways.out]; simp)⟩
              case measure => simp [intOf]; omega
        | false =>
          cases z5 with
          | true =>
            cases z6 with
            | true =>
              repeat (first | go_values | go_skip | go_guarded | ((with_reducible apply wpo_eql19); (case hx => rfl); (case hy => rfl); (case hz => first | exact HZ1.out | exact HZ2.out | exact HZ3.out | exact HZ4.out | exact HZ5.out | exact HZ6.out)) | go_step | go_upon)
              go_wp2
              go_roundw
              case rel => exact ⟨k + 1, c + 1, ⟨p11.w, hq0.trans ((BX.trans (p11.h.mono BX.size)).mono hq0.size)⟩, by omega, by go_num, by go_num, rfl, by omega, Lib.hid (by rw [HWN.out, ← hways.out]; simp)⟩
              case measure => simp [intOf]; omega
            | false =>
              repeat (first | go_values | go_skip | go_guarded | ((with_reducible apply wpo_eql19); (case hx => rfl); (case hy => rfl); (case hz => first | exact HZ1.out | exact HZ2.out | exact HZ3.out | exact HZ4.out | exact HZ5.out | exact HZ6.out)) | go_step | go_upon)
              go_wp2
              go_roundw
              case rel => exact ⟨k + 1, c, ⟨p11.w, hq0.trans ((BX.trans (p11.h.mono BX.size)).mono hq0.size)⟩, by omega, by go_num, rfl, rfl, by omega, Lib.hid (by rw [HWN.out, ← hways.out]; simp)⟩
              case measure => simp [intOf]; omega
          | false =>
            repeat (first | go_values | go_skip | go_guarded | ((with_reducible apply wpo_eql19); (case hx => rfl); (case hy => rfl); (case hz => first | exact HZ1.out | exact HZ2.out | exact HZ3.out | exact HZ4.out | exact HZ5.out | exact HZ6.out)) | go_step | go_upon)
            go_wp2
            go_roundw
            case rel => exact ⟨k + 1, c, ⟨p11.w, hq0.trans ((BX.trans (p11.h.mono BX.size)).mono hq0.size)⟩, by omega, by go_num, rfl, rfl, by omega, Lib.hid (by rw [HWN.out, ← hways.out]; simp)⟩
            case measure => simp [intOf]; omega
    · have hke : k = n := by omega
      have HR : Hid ((c : Int) = (wys l (u1, u2, u3) (v1, v2, v3) : Int)) := Lib.hid (by rw [hways.out, hke, HNN.out, List.take_length])
      clear hke
      go_wp2
      go_ret
      exact ⟨by rw [← HR.out]; rfl, bw_below B1 q0⟩

end
end Go.Proofs.Ytneacfhoinaeeaa
