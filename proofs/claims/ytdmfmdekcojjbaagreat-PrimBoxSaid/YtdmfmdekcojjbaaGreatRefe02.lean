/- Contracts of the document's products (skylightref02). -/
import Derived.Test.YtdmfmdekcojjbaaGreatRefb02
namespace Go.Proofs.YtdmfmdekcojjbaaGreat
open Go.RowKit Go.Proofs.Sky
set_option linter.unusedVariables false
set_option linter.unusedSimpArgs false
attribute [local go_sem ↓] Go.wp_at_zero Go.wp_at_succ

/-- The products of the first digits of u with v, added. -/
def sumP (u v : Int) : Nat → Int
  | 0 => 0
  | k + 1 => sumP u v k + dg u k * 65536 ^ k * v

/-- One row of the product: digit i of u with n digits of v, i places on. -/
def rowP (u v : Int) (i n : Nat) : Nat → Int := fun j => if i ≤ j ∧ j < i + n then dg u i * dg v (j - i) else 0

theorem row_mod0 (u v : Int) : num8 (dg u 0 * dg v 0) (dg u 0 * dg v 1) (dg u 0 * dg v 2) (dg u 0 * dg v 3) (dg u 0 * dg v 4) (dg u 0 * dg v 5) (dg u 0 * dg v 6) (dg u 0 * dg v 7) % 340282366920938463463374607431768211456 = dg u 0 * 65536 ^ 0 * v % 340282366920938463463374607431768211456 := by
  have hv : v = dg v 0 + 65536 * dg v 1 + 4294967296 * dg v 2 + 281474976710656 * dg v 3 + 18446744073709551616 * dg v 4 + 1208925819614629174706176 * dg v 5 + 79228162514264337593543950336 * dg v 6 + 5192296858534827628530496329220096 * dg v 7 + 340282366920938463463374607431768211456 * (v / 340282366920938463463374607431768211456) := by rw [dg0, dg1, dg2, dg3, dg4, dg5, dg6, dg7]; omega
  have he : dg u 0 * v = dg u 0 * dg v 0 + 65536 * (dg u 0 * dg v 1) + 4294967296 * (dg u 0 * dg v 2) + 281474976710656 * (dg u 0 * dg v 3) + 18446744073709551616 * (dg u 0 * dg v 4) + 1208925819614629174706176 * (dg u 0 * dg v 5) + 79228162514264337593543950336 * (dg u 0 * dg v 6) + 5192296858534827628530496329220096 * (dg u 0 * dg v 7) + 340282366920938463463374607431768211456 * (dg u 0 * (v / 340282366920938463463374607431768211456)) := by
    generalize v / 340282366920938463463374607431768211456 = t at *
    generalize dg v 0 = y0 at *
    generalize dg v 1 = y1 at *
    generalize dg v 2 = y2 at *
    generalize dg v 3 = y3 at *
    generalize dg v 4 = y4 at *
    generalize dg v 5 = y5 at *
    generalize dg v 6 = y6 at *
    generalize dg v 7 = y7 at *
    subst hv
    simp only [Int.mul_add, Int.mul_left_comm (dg u 0)]
  rw [show dg u 0 * 65536 ^ 0 * v = 1 * (dg u 0 * v) by rw [Int.mul_assoc, Int.mul_left_comm]; rfl, he]
  generalize dg u 0 * dg v 0 = z0 at *
  generalize dg u 0 * dg v 1 = z1 at *
  generalize dg u 0 * dg v 2 = z2 at *
  generalize dg u 0 * dg v 3 = z3 at *
  generalize dg u 0 * dg v 4 = z4 at *
  generalize dg u 0 * dg v 5 = z5 at *
  generalize dg u 0 * dg v 6 = z6 at *
  generalize dg u 0 * dg v 7 = z7 at *
  generalize dg u 0 * (v / 340282366920938463463374607431768211456) = t at *
  clear hv he
  unfold num8; omega

theorem row_mod1 (u v : Int) : num8 0 (dg u 1 * dg v 0) (dg u 1 * dg v 1) (dg u 1 * dg v 2) (dg u 1 * dg v 3) (dg u 1 * dg v 4) (dg u 1 * dg v 5) (dg u 1 * dg v 6) % 340282366920938463463374607431768211456 = dg u 1 * 65536 ^ 1 * v % 340282366920938463463374607431768211456 := by
  have hv : v = dg v 0 + 65536 * dg v 1 + 4294967296 * dg v 2 + 281474976710656 * dg v 3 + 18446744073709551616 * dg v 4 + 1208925819614629174706176 * dg v 5 + 79228162514264337593543950336 * dg v 6 + 5192296858534827628530496329220096 * (v / 5192296858534827628530496329220096) := by rw [dg0, dg1, dg2, dg3, dg4, dg5, dg6]; omega
  have he : dg u 1 * v = dg u 1 * dg v 0 + 65536 * (dg u 1 * dg v 1) + 4294967296 * (dg u 1 * dg v 2) + 281474976710656 * (dg u 1 * dg v 3) + 18446744073709551616 * (dg u 1 * dg v 4) + 1208925819614629174706176 * (dg u 1 * dg v 5) + 79228162514264337593543950336 * (dg u 1 * dg v 6) + 5192296858534827628530496329220096 * (dg u 1 * (v / 5192296858534827628530496329220096)) := by
    generalize v / 5192296858534827628530496329220096 = t at *
    generalize dg v 0 = y0 at *
    generalize dg v 1 = y1 at *
    generalize dg v 2 = y2 at *
    generalize dg v 3 = y3 at *
    generalize dg v 4 = y4 at *
    generalize dg v 5 = y5 at *
    generalize dg v 6 = y6 at *
    subst hv
    simp only [Int.mul_add, Int.mul_left_comm (dg u 1)]
  rw [show dg u 1 * 65536 ^ 1 * v = 65536 * (dg u 1 * v) by rw [Int.mul_assoc, Int.mul_left_comm]; rfl, he]
  generalize dg u 1 * dg v 0 = z0 at *
  generalize dg u 1 * dg v 1 = z1 at *
  generalize dg u 1 * dg v 2 = z2 at *
  generalize dg u 1 * dg v 3 = z3 at *
  generalize dg u 1 * dg v 4 = z4 at *
  generalize dg u 1 * dg v 5 = z5 at *
  generalize dg u 1 * dg v 6 = z6 at *
  generalize dg u 1 * (v / 5192296858534827628530496329220096) = t at *
  clear hv he
  unfold num8; omega

theorem row_mod2 (u v : Int) : num8 0 0 (dg u 2 * dg v 0) (dg u 2 * dg v 1) (dg u 2 * dg v 2) (dg u 2 * dg v 3) (dg u 2 * dg v 4) (dg u 2 * dg v 5) % 340282366920938463463374607431768211456 = dg u 2 * 65536 ^ 2 * v % 340282366920938463463374607431768211456 := by
  have hv : v = dg v 0 + 65536 * dg v 1 + 4294967296 * dg v 2 + 281474976710656 * dg v 3 + 18446744073709551616 * dg v 4 + 1208925819614629174706176 * dg v 5 + 79228162514264337593543950336 * (v / 79228162514264337593543950336) := by rw [dg0, dg1, dg2, dg3, dg4, dg5]; omega
  have he : dg u 2 * v = dg u 2 * dg v 0 + 65536 * (dg u 2 * dg v 1) + 4294967296 * (dg u 2 * dg v 2) + 281474976710656 * (dg u 2 * dg v 3) + 18446744073709551616 * (dg u 2 * dg v 4) + 1208925819614629174706176 * (dg u 2 * dg v 5) + 79228162514264337593543950336 * (dg u 2 * (v / 79228162514264337593543950336)) := by
    generalize v / 79228162514264337593543950336 = t at *
    generalize dg v 0 = y0 at *
    generalize dg v 1 = y1 at *
    generalize dg v 2 = y2 at *
    generalize dg v 3 = y3 at *
    generalize dg v 4 = y4 at *
    generalize dg v 5 = y5 at *
    subst hv
    simp only [Int.mul_add, Int.mul_left_comm (dg u 2)]
  rw [show dg u 2 * 65536 ^ 2 * v = 4294967296 * (dg u 2 * v) by rw [Int.mul_assoc, Int.mul_left_comm]; rfl, he]
  generalize dg u 2 * dg v 0 = z0 at *
  generalize dg u 2 * dg v 1 = z1 at *
  generalize dg u 2 * dg v 2 = z2 at *
  generalize dg u 2 * dg v 3 = z3 at *
  generalize dg u 2 * dg v 4 = z4 at *
  generalize dg u 2 * dg v 5 = z5 at *
  generalize dg u 2 * (v / 79228162514264337593543950336) = t at *
  clear hv he
  unfold num8; omega

theorem row_mod3 (u v : Int) : num8 0 0 0 (dg u 3 * dg v 0) (dg u 3 * dg v 1) (dg u 3 * dg v 2) (dg u 3 * dg v 3) (dg u 3 * dg v 4) % 340282366920938463463374607431768211456 = dg u 3 * 65536 ^ 3 * v % 340282366920938463463374607431768211456 := by
  have hv : v = dg v 0 + 65536 * dg v 1 + 4294967296 * dg v 2 + 281474976710656 * dg v 3 + 18446744073709551616 * dg v 4 + 1208925819614629174706176 * (v / 1208925819614629174706176) := by rw [dg0, dg1, dg2, dg3, dg4]; omega
  have he : dg u 3 * v = dg u 3 * dg v 0 + 65536 * (dg u 3 * dg v 1) + 4294967296 * (dg u 3 * dg v 2) + 281474976710656 * (dg u 3 * dg v 3) + 18446744073709551616 * (dg u 3 * dg v 4) + 1208925819614629174706176 * (dg u 3 * (v / 1208925819614629174706176)) := by
    generalize v / 1208925819614629174706176 = t at *
    generalize dg v 0 = y0 at *
    generalize dg v 1 = y1 at *
    generalize dg v 2 = y2 at *
    generalize dg v 3 = y3 at *
    generalize dg v 4 = y4 at *
    subst hv
    simp only [Int.mul_add, Int.mul_left_comm (dg u 3)]
  rw [show dg u 3 * 65536 ^ 3 * v = 281474976710656 * (dg u 3 * v) by rw [Int.mul_assoc, Int.mul_left_comm]; rfl, he]
  generalize dg u 3 * dg v 0 = z0 at *
  generalize dg u 3 * dg v 1 = z1 at *
  generalize dg u 3 * dg v 2 = z2 at *
  generalize dg u 3 * dg v 3 = z3 at *
  generalize dg u 3 * dg v 4 = z4 at *
  generalize dg u 3 * (v / 1208925819614629174706176) = t at *
  clear hv he
  unfold num8; omega

theorem row_mod4 (u v : Int) : num8 0 0 0 0 (dg u 4 * dg v 0) (dg u 4 * dg v 1) (dg u 4 * dg v 2) (dg u 4 * dg v 3) % 340282366920938463463374607431768211456 = dg u 4 * 65536 ^ 4 * v % 340282366920938463463374607431768211456 := by
  have hv : v = dg v 0 + 65536 * dg v 1 + 4294967296 * dg v 2 + 281474976710656 * dg v 3 + 18446744073709551616 * (v / 18446744073709551616) := by rw [dg0, dg1, dg2, dg3]; omega
  have he : dg u 4 * v = dg u 4 * dg v 0 + 65536 * (dg u 4 * dg v 1) + 4294967296 * (dg u 4 * dg v 2) + 281474976710656 * (dg u 4 * dg v 3) + 18446744073709551616 * (dg u 4 * (v / 18446744073709551616)) := by
    generalize v / 18446744073709551616 = t at *
    generalize dg v 0 = y0 at *
    generalize dg v 1 = y1 at *
    generalize dg v 2 = y2 at *
    generalize dg v 3 = y3 at *
    subst hv
    simp only [Int.mul_add, Int.mul_left_comm (dg u 4)]
  rw [show dg u 4 * 65536 ^ 4 * v = 18446744073709551616 * (dg u 4 * v) by rw [Int.mul_assoc, Int.mul_left_comm]; rfl, he]
  generalize dg u 4 * dg v 0 = z0 at *
  generalize dg u 4 * dg v 1 = z1 at *
  generalize dg u 4 * dg v 2 = z2 at *
  generalize dg u 4 * dg v 3 = z3 at *
  generalize dg u 4 * (v / 18446744073709551616) = t at *
  clear hv he
  unfold num8; omega

theorem row_mod5 (u v : Int) : num8 0 0 0 0 0 (dg u 5 * dg v 0) (dg u 5 * dg v 1) (dg u 5 * dg v 2) % 340282366920938463463374607431768211456 = dg u 5 * 65536 ^ 5 * v % 340282366920938463463374607431768211456 := by
  have hv : v = dg v 0 + 65536 * dg v 1 + 4294967296 * dg v 2 + 281474976710656 * (v / 281474976710656) := by rw [dg0, dg1, dg2]; omega
  have he : dg u 5 * v = dg u 5 * dg v 0 + 65536 * (dg u 5 * dg v 1) + 4294967296 * (dg u 5 * dg v 2) + 281474976710656 * (dg u 5 * (v / 281474976710656)) := by
    generalize v / 281474976710656 = t at *
    generalize dg v 0 = y0 at *
    generalize dg v 1 = y1 at *
    generalize dg v 2 = y2 at *
    subst hv
    simp only [Int.mul_add, Int.mul_left_comm (dg u 5)]
  rw [show dg u 5 * 65536 ^ 5 * v = 1208925819614629174706176 * (dg u 5 * v) by rw [Int.mul_assoc, Int.mul_left_comm]; rfl, he]
  generalize dg u 5 * dg v 0 = z0 at *
  generalize dg u 5 * dg v 1 = z1 at *
  generalize dg u 5 * dg v 2 = z2 at *
  generalize dg u 5 * (v / 281474976710656) = t at *
  clear hv he
  unfold num8; omega

theorem row_mod6 (u v : Int) : num8 0 0 0 0 0 0 (dg u 6 * dg v 0) (dg u 6 * dg v 1) % 340282366920938463463374607431768211456 = dg u 6 * 65536 ^ 6 * v % 340282366920938463463374607431768211456 := by
  have hv : v = dg v 0 + 65536 * dg v 1 + 4294967296 * (v / 4294967296) := by rw [dg0, dg1]; omega
  have he : dg u 6 * v = dg u 6 * dg v 0 + 65536 * (dg u 6 * dg v 1) + 4294967296 * (dg u 6 * (v / 4294967296)) := by
    generalize v / 4294967296 = t at *
    generalize dg v 0 = y0 at *
    generalize dg v 1 = y1 at *
    subst hv
    simp only [Int.mul_add, Int.mul_left_comm (dg u 6)]
  rw [show dg u 6 * 65536 ^ 6 * v = 79228162514264337593543950336 * (dg u 6 * v) by rw [Int.mul_assoc, Int.mul_left_comm]; rfl, he]
  generalize dg u 6 * dg v 0 = z0 at *
  generalize dg u 6 * dg v 1 = z1 at *
  generalize dg u 6 * (v / 4294967296) = t at *
  clear hv he
  unfold num8; omega

theorem row_mod7 (u v : Int) : num8 0 0 0 0 0 0 0 (dg u 7 * dg v 0) % 340282366920938463463374607431768211456 = dg u 7 * 65536 ^ 7 * v % 340282366920938463463374607431768211456 := by
  have hv : v = dg v 0 + 65536 * (v / 65536) := by rw [dg0]; omega
  have he : dg u 7 * v = dg u 7 * dg v 0 + 65536 * (dg u 7 * (v / 65536)) := by
    generalize v / 65536 = t at *
    generalize dg v 0 = y0 at *
    subst hv
    simp only [Int.mul_add, Int.mul_left_comm (dg u 7)]
  rw [show dg u 7 * 65536 ^ 7 * v = 5192296858534827628530496329220096 * (dg u 7 * v) by rw [Int.mul_assoc, Int.mul_left_comm]; rfl, he]
  generalize dg u 7 * dg v 0 = z0 at *
  generalize dg u 7 * (v / 65536) = t at *
  clear hv he
  unfold num8; omega

theorem row_mod (u v : Int) {i : Nat} (hi : i < 8) : num8 (rowP u v i (8 - i) 0) (rowP u v i (8 - i) 1) (rowP u v i (8 - i) 2) (rowP u v i (8 - i) 3) (rowP u v i (8 - i) 4) (rowP u v i (8 - i) 5) (rowP u v i (8 - i) 6) (rowP u v i (8 - i) 7) % 340282366920938463463374607431768211456 = dg u i * 65536 ^ i * v % 340282366920938463463374607431768211456 :=
  cases8 (P := fun i => num8 (rowP u v i (8 - i) 0) (rowP u v i (8 - i) 1) (rowP u v i (8 - i) 2) (rowP u v i (8 - i) 3) (rowP u v i (8 - i) 4) (rowP u v i (8 - i) 5) (rowP u v i (8 - i) 6) (rowP u v i (8 - i) 7) % 340282366920938463463374607431768211456 = dg u i * 65536 ^ i * v % 340282366920938463463374607431768211456) hi
    (row_mod0 u v) (row_mod1 u v) (row_mod2 u v) (row_mod3 u v) (row_mod4 u v) (row_mod5 u v) (row_mod6 u v) (row_mod7 u v)

theorem sumP_8 (u v : Int) : sumP u v 8 = u % 340282366920938463463374607431768211456 * v := by
  have e := num8_dg u
  unfold num8 at e
  rw [← e]
  show 0 + dg u 0 * 65536 ^ 0 * v + dg u 1 * 65536 ^ 1 * v + dg u 2 * 65536 ^ 2 * v + dg u 3 * 65536 ^ 3 * v + dg u 4 * 65536 ^ 4 * v + dg u 5 * 65536 ^ 5 * v + dg u 6 * 65536 ^ 6 * v + dg u 7 * 65536 ^ 7 * v = _
  simp only [Int.add_mul, Int.mul_assoc]
  rw [show dg u 0 * (65536 ^ 0 * v) = 1 * (dg u 0 * v) by rw [Int.mul_left_comm]; rfl]
  rw [show dg u 1 * (65536 ^ 1 * v) = 65536 * (dg u 1 * v) by rw [Int.mul_left_comm]; rfl]
  rw [show dg u 2 * (65536 ^ 2 * v) = 4294967296 * (dg u 2 * v) by rw [Int.mul_left_comm]; rfl]
  rw [show dg u 3 * (65536 ^ 3 * v) = 281474976710656 * (dg u 3 * v) by rw [Int.mul_left_comm]; rfl]
  rw [show dg u 4 * (65536 ^ 4 * v) = 18446744073709551616 * (dg u 4 * v) by rw [Int.mul_left_comm]; rfl]
  rw [show dg u 5 * (65536 ^ 5 * v) = 1208925819614629174706176 * (dg u 5 * v) by rw [Int.mul_left_comm]; rfl]
  rw [show dg u 6 * (65536 ^ 6 * v) = 79228162514264337593543950336 * (dg u 6 * v) by rw [Int.mul_left_comm]; rfl]
  rw [show dg u 7 * (65536 ^ 7 * v) = 5192296858534827628530496329220096 * (dg u 7 * v) by rw [Int.mul_left_comm]; rfl]
  generalize dg u 0 * v = z0
  generalize dg u 1 * v = z1
  generalize dg u 2 * v = z2
  generalize dg u 3 * v = z3
  generalize dg u 4 * v = z4
  generalize dg u 5 * v = z5
  generalize dg u 6 * v = z6
  generalize dg u 7 * v = z7
  omega

end Go.Proofs.YtdmfmdekcojjbaaGreat
