/- Contracts of package word: numbers and their digits. -/
import Derived.Test.YtlhamgcmkodjeaaDoorConv18
import Derived.Lib.SmallJoins
namespace Go.Proofs.YtlhamgcmkodjeaaDoor
open Go.RowKit Go.Shelf Go.Sort Go.Proofs.Sky
set_option linter.unusedVariables false

theorem below_bytes18 (w : World) (e : TypeId) (s : ByteArray) : Below w.heap.size w (Lib.bytesWorld w e s) := Joins.below_bytesWorld _ _ _ _ (Nat.le_refl _)

theorem atoi_range {l : List UInt8} {v : Int} (h : Lib.atoiAll l = .ok v) : -9223372036854775808 ≤ v ∧ v ≤ 9223372036854775807 := by
  unfold Lib.atoiAll at h
  split at h
  · cases h
  · dsimp only at h
    split at h
    · cases h
    · cases h
    · rename_i u hu
      have := Lib.parseMag_lt hu
      split at h
      · cases h
      · split at h
        · cases h
        · rename_i a b
          injection h with h
          subst h
          split
          · rename_i c
            have : ¬ 9223372036854775808 < u := fun g => b ⟨c, g⟩
            omega
          · rename_i c
            have : ¬ 9223372036854775808 ≤ u := fun g => a ⟨c, g⟩
            omega

theorem atoi_ok (l : List UInt8) (v : Int) (hl : l.length ≤ 1000000) (h : Lib.atoiAll l = .ok v) (w : World) :
    Calls Tryd.prog 20 #[.string ⟨l.toArray⟩] w fun e w' => e = .returned (.tuple #[.int .i64 v, .nilIface]) ∧ Below w.heap.size w w' := by
  refine (Tryd.strconv_Atoi_ok ⟨l.toArray⟩ (by rw [ByteArray.size_mk']; simp; omega) v (by simpa using h) w).mono ?_
  rintro e w' ⟨rfl, hw⟩
  refine ⟨rfl, ?_⟩
  rcases hw with rfl | ⟨t, rfl⟩
  · exact Below.refl _ _
  · exact below_bytes18 _ _ _

theorem atoi_bad (l : List UInt8) (hl : l.length ≤ 1000000) (h : ∀ v, Lib.atoiAll l ≠ .ok v) (w : World) (hL : Laid18 w) :
    Calls Tryd.prog 20 #[.string ⟨l.toArray⟩] w fun e w' => ∃ x t p, e = .returned (.tuple #[.int .i64 x, .iface t p]) ∧ Below w.heap.size w w' := by
  have hsz : (ByteArray.mk l.toArray).size ≤ 281474976710656 := by rw [ByteArray.size_mk']; simp; omega
  cases e : Lib.atoiAll l
  · rename_i v; exact absurd e (h v)
  · obtain ⟨t, p, hv⟩ := hL.syn
    refine (Any.strconv_Atoi_syntax_var Tryd.laysC172 ⟨l.toArray⟩ hsz (by simpa using e) t p w hv).mono ?_
    rintro e w' ⟨N, rfl, _, _, hb⟩
    exact ⟨_, _, _, rfl, hb⟩
  · obtain ⟨t, p, hv⟩ := hL.rng
    refine (Tryd.strconv_Atoi_range_var ⟨l.toArray⟩ hsz (by simpa using e) t p w hv).mono ?_
    rintro e w' ⟨N, rfl, _, _, hb⟩
    exact ⟨_, _, _, rfl, hb⟩

theorem uint_ok (l : List UInt8) (v : Nat) (hl : l.length ≤ 1000000) (h : Lib.parseUintB 64 l = .ok v) (w : World) :
    Calls Tryd.prog 22 #[.string ⟨l.toArray⟩, .int .i64 10, .int .i64 64] w fun e w' => e = .returned (.tuple #[.int .u64 v, .nilIface]) ∧ Below w.heap.size w w' := by
  refine (Tryd.strconv_ParseUint_10_at64_ok ⟨l.toArray⟩ (by rw [ByteArray.size_mk']; simp; omega) v (by simpa using h) w).mono ?_
  rintro e w' ⟨rfl, hw⟩
  refine ⟨rfl, ?_⟩
  rcases hw with rfl | rfl
  · exact Below.refl _ _
  · exact below_bytes18 _ _ _

theorem uint_bad (l : List UInt8) (hl : l.length ≤ 1000000) (h : ∀ v, Lib.parseUintB 64 l ≠ .ok v) (w : World) (hL : Laid18 w) :
    Calls Tryd.prog 22 #[.string ⟨l.toArray⟩, .int .i64 10, .int .i64 64] w fun e w' => ∃ x t p, e = .returned (.tuple #[.int .u64 x, .iface t p]) ∧ Below w.heap.size w w' := by
  have hsz : (ByteArray.mk l.toArray).size ≤ 281474976710656 := by rw [ByteArray.size_mk']; simp; omega
  cases e : Lib.parseUintB 64 l
  · rename_i v; exact absurd e (h v)
  · obtain ⟨t, p, hv⟩ := hL.syn
    refine (Any.strconv_ParseUint_10_at64_syntax_var Tryd.laysPu14 ⟨l.toArray⟩ hsz (by simpa using e) t p w hv).mono ?_
    rintro e w' ⟨N, rfl, _, _, hb⟩
    exact ⟨_, _, _, rfl, hb⟩
  · obtain ⟨t, p, hv⟩ := hL.rng
    refine (Tryd.strconv_ParseUint_10_at64_range_var ⟨l.toArray⟩ hsz (by simpa using e) t p w hv).mono ?_
    rintro e w' ⟨N, rfl, _, _, hb⟩
    exact ⟨_, _, _, rfl, hb⟩

theorem word_Number (l : List UInt8) (hl : l.length ≤ 1000000) (w : World) (hL : Laid18 w) :
    Calls Tryd.prog 7 #[.string ⟨l.toArray⟩] w fun e w' => e = .returned (.tuple #[.int .i64 (numOf l).1, .bool (numOf l).2]) ∧ Below w.heap.size w w' := by
  by_cases h : ∃ v, Lib.atoiAll l = .ok v
  · obtain ⟨v, hv⟩ := h
    have hr := atoi_range hv
    by_cases h1 : v < -2147483648
    · rw [numOf_far hv (by omega)]
      go_enter Tryd.func7, Tryd.ntmps7
      go_wp2_with (go_at_call 20; refine (atoi_ok l v hl hv _).mono ?_; rintro e w' ⟨rfl, hb⟩)
      go_ret2
      exact ⟨rfl, hb⟩
    by_cases h2 : 2147483648 < v
    · rw [numOf_far hv (by omega)]
      go_enter Tryd.func7, Tryd.ntmps7
      go_wp2_with (go_at_call 20; refine (atoi_ok l v hl hv _).mono ?_; rintro e w' ⟨rfl, hb⟩)
      go_ret2
      exact ⟨rfl, hb⟩
    by_cases he : Lib.itoa v = l
    · rw [numOf_ok hv (by omega) he]
      have hq : (Lib.itoa v == l) = true := by simpa using he
      have hD := fun w hw => word_Digits v hr.1 hr.2 w hw
      clear he
      go_enter Tryd.func7, Tryd.ntmps7
      go_wp2_with (first
        | (go_at_call 20; refine (atoi_ok l v hl hv _).mono ?_; rintro e w' ⟨rfl, hb⟩)
        | (go_at_call 14; refine (hD _ (hL.below hb)).mono ?_; rintro e w2 ⟨rfl, hb2⟩))
      go_ret2
      exact ⟨rfl, hb.trans (hb2.mono hb.size)⟩
    · rw [numOf_else hv he]
      have hq : (Lib.itoa v == l) = false := by simpa using he
      have hD := fun w hw => word_Digits v hr.1 hr.2 w hw
      clear he
      go_enter Tryd.func7, Tryd.ntmps7
      go_wp2_with (first
        | (go_at_call 20; refine (atoi_ok l v hl hv _).mono ?_; rintro e w' ⟨rfl, hb⟩)
        | (go_at_call 14; refine (hD _ (hL.below hb)).mono ?_; rintro e w2 ⟨rfl, hb2⟩))
      go_ret2
      exact ⟨rfl, hb.trans (hb2.mono hb.size)⟩
  · have h' : ∀ v, Lib.atoiAll l ≠ .ok v := fun v e => h ⟨v, e⟩
    rw [numOf_bad h']
    go_enter Tryd.func7, Tryd.ntmps7
    go_wp2_with (go_at_call 20; refine (atoi_bad l hl h' _ hL).mono ?_; rintro e w' ⟨x, t, p, rfl, hb⟩)
    go_ret2
    exact ⟨rfl, hb⟩

theorem word_Big (l : List UInt8) (hl : l.length ≤ 1000000) (w : World) (hL : Laid18 w) :
    Calls Tryd.prog 9 #[.string ⟨l.toArray⟩] w fun e w' => e = .returned (.tuple #[.int .u64 ((bigOf l).1 : Int), .bool (bigOf l).2]) ∧ Below w.heap.size w w' := by
  by_cases h : ∃ v, Lib.parseUintB 64 l = .ok v
  · obtain ⟨v, hv⟩ := h
    have hr : v < 18446744073709551616 := by have := Lib.parseUintB_le hv; omega
    have hD := fun w hw => word_BigDigits v hr w hw
    by_cases he : Lib.decDigits v = l
    · rw [bigOf_of hr he]
      have hq : (Lib.decDigits v == l) = true := by simpa using he
      clear he
      go_enter Tryd.func9, Tryd.ntmps9
      go_wp2_with (first
        | (go_at_call 22; refine (uint_ok l v hl hv _).mono ?_; rintro e w' ⟨rfl, hb⟩)
        | (go_at_call 16; refine (hD _ (hL.below hb)).mono ?_; rintro e w2 ⟨rfl, hb2⟩))
      go_ret2
      exact ⟨rfl, hb.trans (hb2.mono hb.size)⟩
    · rw [bigOf_else hv he]
      have hq : (Lib.decDigits v == l) = false := by simpa using he
      clear he
      go_enter Tryd.func9, Tryd.ntmps9
      go_wp2_with (first
        | (go_at_call 22; refine (uint_ok l v hl hv _).mono ?_; rintro e w' ⟨rfl, hb⟩)
        | (go_at_call 16; refine (hD _ (hL.below hb)).mono ?_; rintro e w2 ⟨rfl, hb2⟩))
      go_ret2
      exact ⟨rfl, hb.trans (hb2.mono hb.size)⟩
  · have h' : ∀ v, Lib.parseUintB 64 l ≠ .ok v := fun v e => h ⟨v, e⟩
    rw [bigOf_bad h']
    go_enter Tryd.func9, Tryd.ntmps9
    go_wp2_with (go_at_call 22; refine (uint_bad l hl h' _ hL).mono ?_; rintro e w' ⟨x, t, p, rfl, hb⟩)
    go_ret2
    exact ⟨rfl, hb⟩

end Go.Proofs.YtlhamgcmkodjeaaDoor
