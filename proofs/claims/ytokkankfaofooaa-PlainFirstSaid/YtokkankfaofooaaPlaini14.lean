/- Contracts of package plain: its iterators. -/
import Derived.Test.YtokkankfaofooaaSeqd
import Derived.Test.YtokkankfaofooaaMathb14
import Derived.Test.YtokkankfaofooaaMem14
import Derived.Test.YtokkankfaofooaaRow
import Derived.Shelf.Abstract
import Derived.OwnWalkIn
import Derived.TacticsInMore
import Derived.LoopNIn
import Derived.LoopIn
import Derived.RangeFuncBox
import Derived.RangeFuncCalls
import Derived.WalkMore
import Derived.Sort.CutIn
namespace Go.Proofs.Ytokkankfaofooaa
open Go.RowKit Go.Shelf Go.Proofs.Sky
set_option linter.unusedVariables false

section
attribute [local go_sem] Oper.semAt_some

set_option maxRecDepth 100000 in
set_option maxHeartbeats 4000000 in
theorem every_gives (g : Nat) (a : Option Addr) (n cap : Nat) (w : World) (hg : Bk w g 22 #[.slice a n cap]) (hn : n ≤ 1048576) :
    GivesTo Try.prog 23 #[.pointer (some ⟨g, 0, none⟩)] (fun x : Int => #[.int .i64 x]) (rowOf (fun i => (i : Int)) n) w := fun l J Jx W hJ hJx hB hY h0 => by
  have c0 : W.cell? ⟨g, 0, none⟩ = some (.slice a n cap) := (hg.below (hB _ _ _ h0)).cell rfl
  refine callsIn_of_wp Try.func23 rfl trivial ?_ rfl
  simp only [Try.ntmps23, List.size_toArray, List.length_cons, List.length_nil, Nat.reduceAdd, Nat.reduceSub, Array.replicate_succ, Array.replicate_zero, List.push_toArray, List.append_toArray, List.nil_append, List.cons_append]
  have HY := Lib.hid hY
  have HB := Lib.hid hB
  clear hY hB hJ hJx
  gi_wp2
  clear c0
  gi_loopw [6] (fun i wr => ∃ (k : Nat) (b : Option Nat), k ≤ n ∧ i = .int .i64 k ∧ J (rowOf (fun i => (i : Int)) k) b wr) (fun i _ => n - (intOf i).toNat)
  case atStart => exact ⟨0, none, Nat.zero_le _, rfl, h0⟩
  case round =>
    obtain ⟨k, b, hk, rfl, hj⟩ := hrel
    by_cases hlt : k < n
    · obtain ⟨rest, hx⟩ := rowOf_split (fun i => (i : Int)) n k hlt
      obtain ⟨fn, tmps, assign, body, hy, hR⟩ := HY.out _ _ _ _ wr hx hj
      clear hx
      gi_wp2
      refine ⟨rfl, hR.mono ?_⟩
      rintro e W3 ⟨b', hk3, hf3, (⟨rfl, hj3⟩ | ⟨rfl, hj3⟩)⟩
      · clear hy hR hk3 hf3 hj
        gi_wp2
        go_roundw
        case rel => exact ⟨k + 1, b', by omega, by go_num, by rw [rowOf_succ]; exact hj3⟩
        case measure => simp [intOf]; omega
      · clear hy hR hk3 hf3 hj
        gi_wp2
        refine bodyPost_ret (results_none rfl _ _ _) rfl ?_
        exact ⟨⟨_, rfl⟩, .inr ⟨_, b', hj3⟩⟩
    · obtain rfl : k = n := by omega
      gi_wp2
      go_end0
      exact ⟨⟨_, rfl⟩, .inl ⟨b, hj⟩⟩

set_option maxRecDepth 100000 in
set_option maxHeartbeats 4000000 in
theorem values_gives (g : Nat) (a : Option Addr) (n cap : Nat) (Z : Nat → Int) (w : World) (hg : Bk w g 42 #[.slice a n cap]) (hn : n ≤ 1048576) (hr : ∀ k, k < n → ∃ b off, a = some ⟨b, off, none⟩ ∧ b < w.heap.size ∧ w.cell? ⟨b, off + k, none⟩ = some (.int .i64 (Z k))) :
    GivesTo Try.prog 28 #[.pointer (some ⟨g, 0, none⟩)] (fun x : Int => #[.int .i64 x]) (rowOf (Z) n) w := fun l J Jx W hJ hJx hB hY h0 => by
  have c0 : W.cell? ⟨g, 0, none⟩ = some (.slice a n cap) := (hg.below (hB _ _ _ h0)).cell rfl
  refine callsIn_of_wp Try.func28 rfl trivial ?_ rfl
  simp only [Try.ntmps28, List.size_toArray, List.length_cons, List.length_nil, Nat.reduceAdd, Nat.reduceSub, Array.replicate_succ, Array.replicate_zero, List.push_toArray, List.append_toArray, List.nil_append, List.cons_append]
  have HY := Lib.hid hY
  have HB := Lib.hid hB
  clear hY hB hJ hJx
  gi_wp2
  clear c0
  gi_loopw [7] (fun i wr => ∃ (k : Nat) (b : Option Nat), k ≤ n ∧ i = .int .i64 k ∧ J (rowOf (Z) k) b wr) (fun i _ => n - (intOf i).toNat)
  case atStart => exact ⟨0, none, Nat.zero_le _, rfl, h0⟩
  case round =>
    obtain ⟨k, b, hk, rfl, hj⟩ := hrel
    by_cases hlt : k < n
    · obtain ⟨rest, hx⟩ := rowOf_split (Z) n k hlt
      obtain ⟨fn, tmps, assign, body, hy, hR⟩ := HY.out _ _ _ _ wr hx hj
      obtain ⟨bb, off, rfl, hb, hc⟩ := hr k hlt
      have c1 : wr.cell? ⟨bb, off + k, none⟩ = some (.int .i64 (Z k)) := ((HB.out _ _ _ hj).cell (p := ⟨bb, off + k, none⟩) hb).trans hc
      clear hx
      gi_wp2
      refine ⟨rfl, hR.mono ?_⟩
      rintro e W3 ⟨b', hk3, hf3, (⟨rfl, hj3⟩ | ⟨rfl, hj3⟩)⟩
      · clear hy hR hk3 hf3 hj c1
        gi_wp2
        go_roundw
        case rel => exact ⟨k + 1, b', by omega, by go_num, by rw [rowOf_succ]; exact hj3⟩
        case measure => simp [intOf]; omega
      · clear hy hR hk3 hf3 hj c1
        gi_wp2
        refine bodyPost_ret (results_none rfl _ _ _) rfl ?_
        exact ⟨⟨_, rfl⟩, .inr ⟨_, b', hj3⟩⟩
    · obtain rfl : k = n := by omega
      gi_wp2
      go_end0
      exact ⟨⟨_, rfl⟩, .inl ⟨b, hj⟩⟩

theorem plain_every (a : Option Addr) (n cap : Nat) (w : World) :
    Calls Try.prog 13 #[.slice a n cap] w fun e w' => ∃ g, e = .returned (.func (.func 23) #[] #[.pointer (some ⟨g, 0, none⟩)]) ∧ Bk w' g 22 #[.slice a n cap] ∧ Below w.heap.size w w' := by
  have hmf : ∀ (fn : Fn) (first cap : Array Value) (w : World), (Instr.makeFunc fn first cap).run Try.prog w = .ok (.func fn first cap) w := fun _ _ _ _ => rfl
  go_enter Try.func13, Try.ntmps13
  go_wp2
  go_ret
  exact ⟨_, rfl, Bk.new _ _ _, (Below.refl _ _).alloc (Nat.le_refl _) _⟩

theorem slices_Values (a : Option Addr) (n cap : Nat) (w : World) :
    Calls Try.prog 20 #[.slice a n cap] w fun e w' => ∃ g, e = .returned (.func (.func 28) #[] #[.pointer (some ⟨g, 0, none⟩)]) ∧ Bk w' g 42 #[.slice a n cap] ∧ Below w.heap.size w w' := by
  have hmf : ∀ (fn : Fn) (first cap : Array Value) (w : World), (Instr.makeFunc fn first cap).run Try.prog w = .ok (.func fn first cap) w := fun _ _ _ _ => rfl
  go_enter Try.func20, Try.ntmps20
  go_wp2
  go_ret
  exact ⟨_, rfl, Bk.new _ _ _, (Below.refl _ _).alloc (Nat.le_refl _) _⟩

theorem plain_hits (a : Option Addr) (n cap : Nat) (f : Fn) (bd lb : Array Value) (o1 o2 o3 d1 d2 d3 fr : Int) (w : World) :
    Calls Try.prog 12 #[.slice a n cap, .func f bd lb, .agg #[.int .i64 o1, .int .i64 o2, .int .i64 o3, .int .i64 d1, .int .i64 d2, .int .i64 d3, .int .i64 fr]] w fun e w' => ∃ gi gl gr, e = .returned (.func (.func 21) #[] #[.pointer (some ⟨gi, 0, none⟩), .pointer (some ⟨gl, 0, none⟩), .pointer (some ⟨gr, 0, none⟩)]) ∧
      Bk w' gi 49 #[.func f bd lb] ∧ Bk w' gl 22 #[.slice a n cap] ∧ Bk w' gr 28 #[.int .i64 o1, .int .i64 o2, .int .i64 o3, .int .i64 d1, .int .i64 d2, .int .i64 d3, .int .i64 fr] ∧ Below w.heap.size w w' := by
  have hmf : ∀ (fn : Fn) (first cap : Array Value) (w : World), (Instr.makeFunc fn first cap).run Try.prog w = .ok (.func fn first cap) w := fun _ _ _ _ => rfl
  go_enter Try.func12, Try.ntmps12
  go_wp2
  go_ret
  refine ⟨_, _, _, rfl, ?_, ((Bk.new _ _ _).alloc _).alloc _, ?_, (((Below.refl _ _).alloc (Nat.le_refl _) _).alloc (by simp) _).alloc (by simp; omega) _⟩
  · exact Bk.alloc (by have := Bk.new (w.alloc (.cells #[.slice a n cap] 22)) #[.func f bd lb] 49; simpa using this) _
  · have := Bk.new ((w.alloc (.cells #[.slice a n cap] 22)).alloc (.cells #[.func f bd lb] 49)) #[.int .i64 o1, .int .i64 o2, .int .i64 o3, .int .i64 d1, .int .i64 d2, .int .i64 d3, .int .i64 fr] 28; simpa using this

set_option maxRecDepth 100000 in
set_option maxHeartbeats 4000000 in
theorem hits_gives (gi gl gr : Nat) (a : Option Addr) (n cap : Nat) (P : Nat → Pr) (o1 o2 o3 d1 d2 d3 fr : Int) (gf : Nat) (lb : Array Value) (zs : List Int) (w : World)
    (eg : ∀ args w, (callFunc gf args).run Try.prog w = .ok (.enter gf args) w) (hz : GivesTo Try.prog gf lb (fun x : Int => #[.int .i64 x]) zs w)
    (ki : Bk w gi 49 #[.func (.func gf) #[] lb]) (kl : Bk w gl 22 #[.slice a n cap]) (kr : Bk w gr 28 #[.int .i64 o1, .int .i64 o2, .int .i64 o3, .int .i64 d1, .int .i64 d2, .int .i64 d3, .int .i64 fr])
    (hs : Prims w (.slice a n cap) n P) (hn : n ≤ 1048576)
    (KH : ∀ (k : Nat) (w : World), k < n → Calls Try.prog 22 #[.agg #[.int .i64 (P k).k, .int .i64 (P k).a.1, .int .i64 (P k).a.2.1, .int .i64 (P k).a.2.2, .int .i64 (P k).b.1, .int .i64 (P k).b.2.1, .int .i64 (P k).b.2.2, .int .i64 (P k).c.1, .int .i64 (P k).c.2.1, .int .i64 (P k).c.2.2, .int .i64 (P k).r, .int .i64 (P k).m], .int .i64 k, .agg #[.int .i64 o1, .int .i64 o2, .int .i64 o3, .int .i64 d1, .int .i64 d2, .int .i64 d3, .int .i64 fr]] w fun e w' => e = .returned (.tuple #[.agg #[.int .i64 (pHit (P k) k (o1, o2, o3) (d1, d2, d3) fr).1.1, .int .i64 (pHit (P k) k (o1, o2, o3) (d1, d2, d3) fr).1.2], .bool (pHit (P k) k (o1, o2, o3) (d1, d2, d3) fr).2]) ∧ Below w.heap.size w w') :
    GivesTo Try.prog 21 #[.pointer (some ⟨gi, 0, none⟩), .pointer (some ⟨gl, 0, none⟩), .pointer (some ⟨gr, 0, none⟩)] (fun h : H3 => #[.agg #[.int .i64 h.1, .int .i64 h.2.1, .int .i64 h.2.2]]) (hOver P n (o1, o2, o3) (d1, d2, d3) fr zs) w := fun l J Jx W hJ hJx hB hY h0 => by
  have hbW := hB _ _ _ h0
  have c_i : W.cell? ⟨gi, 0, none⟩ = some (.func (.func gf) #[] lb) := (ki.below hbW).cell rfl
  have igi := (ki.below hbW).lt
  refine callsIn_of_wp_marks Try.func21 rfl trivial ?_ rfl
  simp only [Try.ntmps21, List.size_toArray, List.length_cons, List.length_nil, Nat.reduceAdd, Nat.reduceSub, Array.replicate_succ, Array.replicate_zero, List.push_toArray, List.append_toArray, List.nil_append, List.cons_append]
  have HS := Lib.hid hs
  have HK := Lib.hid KH
  have HY := Lib.hid hY
  have HB := Lib.hid hB
  have HJ := Lib.hid hJ
  have HJx := Lib.hid hJx
  have HN := Lib.hid hn
  clear hs KH hY hB hJ hJx hn
  gi_upto_region 1 with (fail)
  obtain ⟨W1, hW1⟩ : ∃ W1, W1 = W.alloc (.cells #[.func (.yield l) #[] #[]] 55) := ⟨_, rfl⟩
  have k_y : Bk W1 W.heap.size 55 #[.func (.yield l) #[] #[]] := by rw [hW1]; exact Bk.new _ _ _
  have hb1 : Below W.heap.size W W1 := by rw [hW1]; exact (Below.refl _ _).alloc (Nat.le_refl _) _
  have c_i1 : W1.cell? ⟨gi, 0, none⟩ = some (.func (.func gf) #[] lb) := (hb1.cell (p := ⟨gi, 0, none⟩) igi).trans c_i
  have h1 := own_below (HJ.out none) h0 hb1
  have hle := hb1.size
  rw [← hW1]
  clear hW1 c_i
  gi_wp2
  clear c_i1
  refine range_to (gf := gf) (lb := lb) (encs := fun x : Int => #[.int .i64 x]) (xs := zs) (w0 := w) rfl eg hz (fun _ => rfl)
    (fun pre b V => (J (hOver P n (o1, o2, o3) (d1, d2, d3) fr pre) b V ∧ Bk V W.heap.size 55 #[.func (.yield l) #[] #[]]) ∧ b ≠ some W.heap.size)
    (fun c pre b V => c = .ret ∧ ∃ s, Jx s b V)
    (fun b => OwnFrom.and (OwnFrom.and (own_map _ (own_mono (HJ.out b) hle)) (bk_own _)) (pure_own _))
    (fun c b => OwnFrom.and (pure_own _) (fun _ X Y row ⟨s, h⟩ hg hr => ⟨s, own_mono (HJx.out b) hle s X Y row h hg hr⟩))
    (fun s b V h => HB.out _ _ _ h.1.1) ⟨⟨h1, k_y⟩, by simp⟩ ?round ?done ?stop
  case round =>
    rintro l2 pre x rest b V hl2 hx ⟨⟨hj, k_y⟩, hne⟩ hnl
    clear h0 h1 hbW hb1 eg hz
    gi_wp2
    refine ⟨KeepsBut.refl _ _ _, fun r' r'' hlr => ?_⟩
    obtain ⟨V2, hV2⟩ : ∃ V2, V2 = V.putObj l2 (.loop r'') := ⟨_, rfl⟩
    have hj2 : J (hOver P n (o1, o2, o3) (d1, d2, d3) fr pre) b V2 := by rw [hV2]; exact (HJ.out b).putObj _ hj (by omega) hlr rfl
    have k_y2 : Bk V2 W.heap.size 55 #[.func (.yield l) #[] #[]] := by rw [hV2]; exact bk_put k_y hlr _
    have hsz : V.heap.size ≤ V2.heap.size := by rw [hV2]; simp
    rw [← hV2]
    clear hV2 hlr hj k_y
    obtain ⟨V0, hV0⟩ : ∃ V0, V0 = V2 := ⟨_, rfl⟩
    refine stops_from hV0 ?_
    have HV0 := Lib.hid hV0
    clear hV0
    have hB2 := HB.out _ _ _ hj2
    have c_l : V2.cell? ⟨gl, 0, none⟩ = some (.slice a n cap) := (kl.below hB2).cell rfl
    by_cases h0 : x < 0
    · have t1 : decide (x < 0) = true := decide_eq_true h0
      gi_wp2
      exact ⟨b, by rw [HV0.out]; exact KeepsBut.refl _ _ _, FreshRow.same _ _, ⟨by rw [hOver_snoc, hAt_out (.inl h0), List.append_nil]; exact hj2, k_y2⟩, hne⟩
    have t1 : decide (x < 0) = false := decide_eq_false h0
    by_cases hge : (n : Int) ≤ x
    · have t2 : decide ((n : Int) ≤ x) = true := decide_eq_true hge
      gi_wp2
      exact ⟨b, by rw [HV0.out]; exact KeepsBut.refl _ _ _, FreshRow.same _ _, ⟨by rw [hOver_snoc, hAt_out (.inr hge), List.append_nil]; exact hj2, k_y2⟩, hne⟩
    have t2 : decide ((n : Int) ≤ x) = false := decide_eq_false hge
    obtain ⟨k, rfl⟩ : ∃ k : Nat, x = k := ⟨x.toNat, by omega⟩
    have hlt : k < n := by omega
    obtain ⟨⟨_, _, hsl, _, hS⟩, hI⟩ := HS.out
    cases hsl
    obtain ⟨bb, off, rfl, hbb, hcell⟩ := hS.resolve_left (by omega)
    have hx' := hcell k hlt
    have KH := Lib.hid (fun w => HK.out k w hlt)
    have HX := Lib.hid hx
    have HSN := Lib.hid (hOver_snoc P n (o1, o2, o3) (d1, d2, d3) fr pre k)
    have hAtk := hAt_in (P := P) (o := (o1, o2, o3)) (d := (d1, d2, d3)) (fr := fr) hlt
    clear hx hcell hS hI
    have x0 : V2.cell? ⟨bb, off + k * 12 + 0, none⟩ = some (.int .i64 (P k).k) := (hB2.cell (p := ⟨bb, off + k * 12 + 0, none⟩) hbb).trans (hx' 0 (by omega))
    have x1 : V2.cell? ⟨bb, off + k * 12 + 1, none⟩ = some (.int .i64 (P k).a.1) := (hB2.cell (p := ⟨bb, off + k * 12 + 1, none⟩) hbb).trans (hx' 1 (by omega))
    have x2 : V2.cell? ⟨bb, off + k * 12 + 2, none⟩ = some (.int .i64 (P k).a.2.1) := (hB2.cell (p := ⟨bb, off + k * 12 + 2, none⟩) hbb).trans (hx' 2 (by omega))
    have x3 : V2.cell? ⟨bb, off + k * 12 + 3, none⟩ = some (.int .i64 (P k).a.2.2) := (hB2.cell (p := ⟨bb, off + k * 12 + 3, none⟩) hbb).trans (hx' 3 (by omega))
    have x4 : V2.cell? ⟨bb, off + k * 12 + 4, none⟩ = some (.int .i64 (P k).b.1) := (hB2.cell (p := ⟨bb, off + k * 12 + 4, none⟩) hbb).trans (hx' 4 (by omega))
    have x5 : V2.cell? ⟨bb, off + k * 12 + 5, none⟩ = some (.int .i64 (P k).b.2.1) := (hB2.cell (p := ⟨bb, off + k * 12 + 5, none⟩) hbb).trans (hx' 5 (by omega))
    have x6 : V2.cell? ⟨bb, off + k * 12 + 6, none⟩ = some (.int .i64 (P k).b.2.2) := (hB2.cell (p := ⟨bb, off + k * 12 + 6, none⟩) hbb).trans (hx' 6 (by omega))
    have x7 : V2.cell? ⟨bb, off + k * 12 + 7, none⟩ = some (.int .i64 (P k).c.1) := (hB2.cell (p := ⟨bb, off + k * 12 + 7, none⟩) hbb).trans (hx' 7 (by omega))
    have x8 : V2.cell? ⟨bb, off + k * 12 + 8, none⟩ = some (.int .i64 (P k).c.2.1) := (hB2.cell (p := ⟨bb, off + k * 12 + 8, none⟩) hbb).trans (hx' 8 (by omega))
    have x9 : V2.cell? ⟨bb, off + k * 12 + 9, none⟩ = some (.int .i64 (P k).c.2.2) := (hB2.cell (p := ⟨bb, off + k * 12 + 9, none⟩) hbb).trans (hx' 9 (by omega))
    have x10 : V2.cell? ⟨bb, off + k * 12 + 10, none⟩ = some (.int .i64 (P k).r) := (hB2.cell (p := ⟨bb, off + k * 12 + 10, none⟩) hbb).trans (hx' 10 (by omega))
    have x11 : V2.cell? ⟨bb, off + k * 12 + 11, none⟩ = some (.int .i64 (P k).m) := (hB2.cell (p := ⟨bb, off + k * 12 + 11, none⟩) hbb).trans (hx' 11 (by omega))
    have hbb := Nat.lt_of_lt_of_le hbb hB2.size
    have k_r := kr.below hB2
    have k_y := k_y2
    have k_l := kl.below hB2
    have hAy := fun h => hitAt_yes (p := P k) (i := k) (o := (o1, o2, o3)) (d := (d1, d2, d3)) (fr := fr) h
    have hAn := fun h => hitAt_no (p := P k) (i := k) (o := (o1, o2, o3)) (d := (d1, d2, d3)) (fr := fr) h
    rw [← hAtk] at hAy hAn
    clear hAtk hx' c_l
    change Hid (∀ w, Calls Try.prog 22 _ w fun en w' => en = .returned (.tuple #[.agg #[.int .i64 (pHit (P k) k (o1, o2, o3) (d1, d2, d3) fr).1.1, .int .i64 (pHit (P k) k (o1, o2, o3) (d1, d2, d3) fr).1.2], .bool (pHit (P k) k (o1, o2, o3) (d1, d2, d3) fr).2]) ∧ Below w.heap.size w w') at KH
    obtain ⟨R, hR⟩ : ∃ R, R = pHit (P k) k (o1, o2, o3) (d1, d2, d3) fr := ⟨_, rfl⟩
    rw [← hR] at KH hAy hAn
    clear hR
    obtain ⟨pk, hpk⟩ : ∃ pk, pk = P k := ⟨_, rfl⟩
    rw [← hpk] at KH x0 x1 x2 x3 x4 x5 x6 x7 x8 x9 x10 x11
    clear hpk
    obtain ⟨kk, ⟨a1, a2, a3⟩, ⟨b1, b2, b3⟩, ⟨c1, c2, c3⟩, r, m⟩ := pk
    obtain ⟨⟨rn, rd⟩, ok⟩ := R
    dsimp only at KH hAy hAn x0 x1 x2 x3 x4 x5 x6 x7 x8 x9 x10 x11
    have HAY := Lib.hid hAy
    have HAN := Lib.hid hAn
    have B1 : Below V2.heap.size V2 V2 := Below.refl _ _
    clear hAy hAn
    cases ok with
    | false =>
      have c_y_0 := bwc1 (k_y)
      obtain ⟨c_r_0, c_r_1, c_r_2, c_r_3, c_r_4, c_r_5, c_r_6⟩ := bwc7 (k_r)
      have c_l_0 := bwc1 (k_l)
      have c_e0 : ∀ p : BW V2, p.w.cell? ⟨bb, off + k * 12, none⟩ = some (.int .i64 kk) := bw_cell ((B1.cell (p := ⟨bb, off + k * 12, none⟩) hbb).trans x0)
      have c_e1 : ∀ p : BW V2, p.w.cell? ⟨bb, off + k * 12 + 1, none⟩ = some (.int .i64 a1) := bw_cell ((B1.cell (p := ⟨bb, off + k * 12 + 1, none⟩) hbb).trans x1)
      have c_e2 : ∀ p : BW V2, p.w.cell? ⟨bb, off + k * 12 + 2, none⟩ = some (.int .i64 a2) := bw_cell ((B1.cell (p := ⟨bb, off + k * 12 + 2, none⟩) hbb).trans x2)
      have c_e3 : ∀ p : BW V2, p.w.cell? ⟨bb, off + k * 12 + 3, none⟩ = some (.int .i64 a3) := bw_cell ((B1.cell (p := ⟨bb, off + k * 12 + 3, none⟩) hbb).trans x3)
      have c_e4 : ∀ p : BW V2, p.w.cell? ⟨bb, off + k * 12 + 4, none⟩ = some (.int .i64 b1) := bw_cell ((B1.cell (p := ⟨bb, off + k * 12 + 4, none⟩) hbb).trans x4)
      have c_e5 : ∀ p : BW V2, p.w.cell? ⟨bb, off + k * 12 + 5, none⟩ = some (.int .i64 b2) := bw_cell ((B1.cell (p := ⟨bb, off + k * 12 + 5, none⟩) hbb).trans x5)
      have c_e6 : ∀ p : BW V2, p.w.cell? ⟨bb, off + k * 12 + 6, none⟩ = some (.int .i64 b3) := bw_cell ((B1.cell (p := ⟨bb, off + k * 12 + 6, none⟩) hbb).trans x6)
      have c_e7 : ∀ p : BW V2, p.w.cell? ⟨bb, off + k * 12 + 7, none⟩ = some (.int .i64 c1) := bw_cell ((B1.cell (p := ⟨bb, off + k * 12 + 7, none⟩) hbb).trans x7)
      have c_e8 : ∀ p : BW V2, p.w.cell? ⟨bb, off + k * 12 + 8, none⟩ = some (.int .i64 c2) := bw_cell ((B1.cell (p := ⟨bb, off + k * 12 + 8, none⟩) hbb).trans x8)
      have c_e9 : ∀ p : BW V2, p.w.cell? ⟨bb, off + k * 12 + 9, none⟩ = some (.int .i64 c3) := bw_cell ((B1.cell (p := ⟨bb, off + k * 12 + 9, none⟩) hbb).trans x9)
      have c_e10 : ∀ p : BW V2, p.w.cell? ⟨bb, off + k * 12 + 10, none⟩ = some (.int .i64 r) := bw_cell ((B1.cell (p := ⟨bb, off + k * 12 + 10, none⟩) hbb).trans x10)
      have c_e11 : ∀ p : BW V2, p.w.cell? ⟨bb, off + k * 12 + 11, none⟩ = some (.int .i64 m) := bw_cell ((B1.cell (p := ⟨bb, off + k * 12 + 11, none⟩) hbb).trans x11)
      obtain ⟨p1, hp1⟩ : ∃ p : BW V2, p.w = V2 := ⟨BW.start V2, rfl⟩
      rw [← hp1]
      clear hp1
      gi_upto_region 4 with (fail)
      refine region_in (by kernel_rfl) (by kernel_rfl) (fun _ _ h => h) ?_
      refine any_late 9 11 27 (by kernel_rfl) rfl rfl rfl (fun _ _ _ _ h => h) ?_
      refine any_region_float (t := 30) (zs := #[.int .i64 0, .int .i64 0]) 11 10 6 37 (by kernel_rfl) (by kernel_rfl) (by kernel_rfl) (by kernel_rfl) rfl ?_ ?_
      · intro ev wx
        simp [execOp, go_sem]
      apply Exists.intro
      refine ⟨?_, ?_⟩
      · intro wb' hwb'
        have d_y_0 := bwc1 (k_y.below hwb')
        obtain ⟨d_r_0, d_r_1, d_r_2, d_r_3, d_r_4, d_r_5, d_r_6⟩ := bwc7 (k_r.below hwb')
        have d_l_0 := bwc1 (k_l.below hwb')
        have d_e0 : ∀ q : BW wb', q.w.cell? ⟨bb, off + k * 12, none⟩ = some (.int .i64 kk) := bw_cell ((hwb'.cell (p := ⟨bb, off + k * 12, none⟩) (Nat.lt_of_lt_of_le hbb B1.size)).trans ((B1.cell (p := ⟨bb, off + k * 12, none⟩) hbb).trans x0))
        have d_e1 : ∀ q : BW wb', q.w.cell? ⟨bb, off + k * 12 + 1, none⟩ = some (.int .i64 a1) := bw_cell ((hwb'.cell (p := ⟨bb, off + k * 12 + 1, none⟩) (Nat.lt_of_lt_of_le hbb B1.size)).trans ((B1.cell (p := ⟨bb, off + k * 12 + 1, none⟩) hbb).trans x1))
        have d_e2 : ∀ q : BW wb', q.w.cell? ⟨bb, off + k * 12 + 2, none⟩ = some (.int .i64 a2) := bw_cell ((hwb'.cell (p := ⟨bb, off + k * 12 + 2, none⟩) (Nat.lt_of_lt_of_le hbb B1.size)).trans ((B1.cell (p := ⟨bb, off + k * 12 + 2, none⟩) hbb).trans x2))
        have d_e3 : ∀ q : BW wb', q.w.cell? ⟨bb, off + k * 12 + 3, none⟩ = some (.int .i64 a3) := bw_cell ((hwb'.cell (p := ⟨bb, off + k * 12 + 3, none⟩) (Nat.lt_of_lt_of_le hbb B1.size)).trans ((B1.cell (p := ⟨bb, off + k * 12 + 3, none⟩) hbb).trans x3))
        have d_e4 : ∀ q : BW wb', q.w.cell? ⟨bb, off + k * 12 + 4, none⟩ = some (.int .i64 b1) := bw_cell ((hwb'.cell (p := ⟨bb, off + k * 12 + 4, none⟩) (Nat.lt_of_lt_of_le hbb B1.size)).trans ((B1.cell (p := ⟨bb, off + k * 12 + 4, none⟩) hbb).trans x4))
        have d_e5 : ∀ q : BW wb', q.w.cell? ⟨bb, off + k * 12 + 5, none⟩ = some (.int .i64 b2) := bw_cell ((hwb'.cell (p := ⟨bb, off + k * 12 + 5, none⟩) (Nat.lt_of_lt_of_le hbb B1.size)).trans ((B1.cell (p := ⟨bb, off + k * 12 + 5, none⟩) hbb).trans x5))
        have d_e6 : ∀ q : BW wb', q.w.cell? ⟨bb, off + k * 12 + 6, none⟩ = some (.int .i64 b3) := bw_cell ((hwb'.cell (p := ⟨bb, off + k * 12 + 6, none⟩) (Nat.lt_of_lt_of_le hbb B1.size)).trans ((B1.cell (p := ⟨bb, off + k * 12 + 6, none⟩) hbb).trans x6))
        have d_e7 : ∀ q : BW wb', q.w.cell? ⟨bb, off + k * 12 + 7, none⟩ = some (.int .i64 c1) := bw_cell ((hwb'.cell (p := ⟨bb, off + k * 12 + 7, none⟩) (Nat.lt_of_lt_of_le hbb B1.size)).trans ((B1.cell (p := ⟨bb, off + k * 12 + 7, none⟩) hbb).trans x7))
        have d_e8 : ∀ q : BW wb', q.w.cell? ⟨bb, off + k * 12 + 8, none⟩ = some (.int .i64 c2) := bw_cell ((hwb'.cell (p := ⟨bb, off + k * 12 + 8, none⟩) (Nat.lt_of_lt_of_le hbb B1.size)).trans ((B1.cell (p := ⟨bb, off + k * 12 + 8, none⟩) hbb).trans x8))
        have d_e9 : ∀ q : BW wb', q.w.cell? ⟨bb, off + k * 12 + 9, none⟩ = some (.int .i64 c3) := bw_cell ((hwb'.cell (p := ⟨bb, off + k * 12 + 9, none⟩) (Nat.lt_of_lt_of_le hbb B1.size)).trans ((B1.cell (p := ⟨bb, off + k * 12 + 9, none⟩) hbb).trans x9))
        have d_e10 : ∀ q : BW wb', q.w.cell? ⟨bb, off + k * 12 + 10, none⟩ = some (.int .i64 r) := bw_cell ((hwb'.cell (p := ⟨bb, off + k * 12 + 10, none⟩) (Nat.lt_of_lt_of_le hbb B1.size)).trans ((B1.cell (p := ⟨bb, off + k * 12 + 10, none⟩) hbb).trans x10))
        have d_e11 : ∀ q : BW wb', q.w.cell? ⟨bb, off + k * 12 + 11, none⟩ = some (.int .i64 m) := bw_cell ((hwb'.cell (p := ⟨bb, off + k * 12 + 11, none⟩) (Nat.lt_of_lt_of_le hbb B1.size)).trans ((B1.cell (p := ⟨bb, off + k * 12 + 11, none⟩) hbb).trans x11))
        simp only [edgeAt, maskAt, List.take_succ_cons, List.take_zero]
        repeat (go_big_quiet_step (first
          | (go_at_call 22; (first | (with_reducible exact bw_call KH.out _)))))
        refine wpQuiet_nil ?_
        exact rfl
      intro W2 g_t hW hg k_t
      have B2 : Below V2.heap.size V2 W2 := B1.trans (hW.mono B1.size)
      have o_t : V2.heap.size ≤ g_t := Nat.le_trans B1.size hg
      have l_t : gl < g_t := Nat.lt_of_lt_of_le k_l.lt hg
      have l_t_y : W.heap.size < g_t := Nat.lt_of_lt_of_le k_y.lt hg
      have l_t_r : gr < g_t := Nat.lt_of_lt_of_le k_r.lt hg
      have k_y := k_y.below hW
      have k_r := k_r.below hW
      have k_l := k_l.below hW
      clear hW hg B1
      clear c_y_0 c_r_0 c_r_1 c_r_2 c_r_3 c_r_4 c_r_5 c_r_6 c_l_0 c_e0 c_e1 c_e2 c_e3 c_e4 c_e5 c_e6 c_e7 c_e8 c_e9 c_e10 c_e11
      simp only [edgeAt, List.drop_succ_cons, List.drop_zero, Act.put, List.setIfInBounds_toArray, List.set_cons_zero, List.set_cons_succ]
      have c_y_0 := bwc1 (k_y)
      obtain ⟨c_r_0, c_r_1, c_r_2, c_r_3, c_r_4, c_r_5, c_r_6⟩ := bwc7 (k_r)
      have c_l_0 := bwc1 (k_l)
      obtain ⟨c_t_0, c_t_1⟩ := bwc2 (k_t)
      obtain ⟨f_t_0, f_t_1⟩ := bwf2 (k_t)
      have c_e0 : ∀ p : BW W2, p.w.cell? ⟨bb, off + k * 12, none⟩ = some (.int .i64 kk) := bw_cell ((B2.cell (p := ⟨bb, off + k * 12, none⟩) hbb).trans x0)
      have c_e1 : ∀ p : BW W2, p.w.cell? ⟨bb, off + k * 12 + 1, none⟩ = some (.int .i64 a1) := bw_cell ((B2.cell (p := ⟨bb, off + k * 12 + 1, none⟩) hbb).trans x1)
      have c_e2 : ∀ p : BW W2, p.w.cell? ⟨bb, off + k * 12 + 2, none⟩ = some (.int .i64 a2) := bw_cell ((B2.cell (p := ⟨bb, off + k * 12 + 2, none⟩) hbb).trans x2)
      have c_e3 : ∀ p : BW W2, p.w.cell? ⟨bb, off + k * 12 + 3, none⟩ = some (.int .i64 a3) := bw_cell ((B2.cell (p := ⟨bb, off + k * 12 + 3, none⟩) hbb).trans x3)
      have c_e4 : ∀ p : BW W2, p.w.cell? ⟨bb, off + k * 12 + 4, none⟩ = some (.int .i64 b1) := bw_cell ((B2.cell (p := ⟨bb, off + k * 12 + 4, none⟩) hbb).trans x4)
      have c_e5 : ∀ p : BW W2, p.w.cell? ⟨bb, off + k * 12 + 5, none⟩ = some (.int .i64 b2) := bw_cell ((B2.cell (p := ⟨bb, off + k * 12 + 5, none⟩) hbb).trans x5)
      have c_e6 : ∀ p : BW W2, p.w.cell? ⟨bb, off + k * 12 + 6, none⟩ = some (.int .i64 b3) := bw_cell ((B2.cell (p := ⟨bb, off + k * 12 + 6, none⟩) hbb).trans x6)
      have c_e7 : ∀ p : BW W2, p.w.cell? ⟨bb, off + k * 12 + 7, none⟩ = some (.int .i64 c1) := bw_cell ((B2.cell (p := ⟨bb, off + k * 12 + 7, none⟩) hbb).trans x7)
      have c_e8 : ∀ p : BW W2, p.w.cell? ⟨bb, off + k * 12 + 8, none⟩ = some (.int .i64 c2) := bw_cell ((B2.cell (p := ⟨bb, off + k * 12 + 8, none⟩) hbb).trans x8)
      have c_e9 : ∀ p : BW W2, p.w.cell? ⟨bb, off + k * 12 + 9, none⟩ = some (.int .i64 c3) := bw_cell ((B2.cell (p := ⟨bb, off + k * 12 + 9, none⟩) hbb).trans x9)
      have c_e10 : ∀ p : BW W2, p.w.cell? ⟨bb, off + k * 12 + 10, none⟩ = some (.int .i64 r) := bw_cell ((B2.cell (p := ⟨bb, off + k * 12 + 10, none⟩) hbb).trans x10)
      have c_e11 : ∀ p : BW W2, p.w.cell? ⟨bb, off + k * 12 + 11, none⟩ = some (.int .i64 m) := bw_cell ((B2.cell (p := ⟨bb, off + k * 12 + 11, none⟩) hbb).trans x11)
      obtain ⟨p2, hp2⟩ : ∃ p : BW W2, p.w = W2 := ⟨BW.start W2, rfl⟩
      rw [← hp2]
      clear hp2
      go_wp2
      obtain ⟨W3, hW3⟩ : ∃ W, W = (p2.w.setCell ⟨g_t, 0, none⟩ (.int .i64 rn)).setCell ⟨g_t, 1, none⟩ (.int .i64 rd) := ⟨_, rfl⟩
      have B3 : Below V2.heap.size V2 W3 := by rw [hW3]; exact blp2 (bw_below B2 p2) (by omega)
      have k_y := bkoe2 hW3 (k_y.below p2.h) (by omega)
      have k_r := bkoe2 hW3 (k_r.below p2.h) (by omega)
      have k_l := bkoe2 hW3 (k_l.below p2.h) (by omega)
      have k_t := bkpe2 hW3 (k_t.below p2.h)
      rw [← hW3]
      clear hW3
      clear B2
      clear c_y_0 c_r_0 c_r_1 c_r_2 c_r_3 c_r_4 c_r_5 c_r_6 c_l_0 c_t_0 c_t_1 f_t_0 f_t_1 c_e0 c_e1 c_e2 c_e3 c_e4 c_e5 c_e6 c_e7 c_e8 c_e9 c_e10 c_e11
      have c_y_0 := bwc1 (k_y)
      obtain ⟨c_r_0, c_r_1, c_r_2, c_r_3, c_r_4, c_r_5, c_r_6⟩ := bwc7 (k_r)
      have c_l_0 := bwc1 (k_l)
      obtain ⟨c_t_0, c_t_1⟩ := bwc2 (k_t)
      have c_e0 : ∀ p : BW W3, p.w.cell? ⟨bb, off + k * 12, none⟩ = some (.int .i64 kk) := bw_cell ((B3.cell (p := ⟨bb, off + k * 12, none⟩) hbb).trans x0)
      have c_e1 : ∀ p : BW W3, p.w.cell? ⟨bb, off + k * 12 + 1, none⟩ = some (.int .i64 a1) := bw_cell ((B3.cell (p := ⟨bb, off + k * 12 + 1, none⟩) hbb).trans x1)
      have c_e2 : ∀ p : BW W3, p.w.cell? ⟨bb, off + k * 12 + 2, none⟩ = some (.int .i64 a2) := bw_cell ((B3.cell (p := ⟨bb, off + k * 12 + 2, none⟩) hbb).trans x2)
      have c_e3 : ∀ p : BW W3, p.w.cell? ⟨bb, off + k * 12 + 3, none⟩ = some (.int .i64 a3) := bw_cell ((B3.cell (p := ⟨bb, off + k * 12 + 3, none⟩) hbb).trans x3)
      have c_e4 : ∀ p : BW W3, p.w.cell? ⟨bb, off + k * 12 + 4, none⟩ = some (.int .i64 b1) := bw_cell ((B3.cell (p := ⟨bb, off + k * 12 + 4, none⟩) hbb).trans x4)
      have c_e5 : ∀ p : BW W3, p.w.cell? ⟨bb, off + k * 12 + 5, none⟩ = some (.int .i64 b2) := bw_cell ((B3.cell (p := ⟨bb, off + k * 12 + 5, none⟩) hbb).trans x5)
      have c_e6 : ∀ p : BW W3, p.w.cell? ⟨bb, off + k * 12 + 6, none⟩ = some (.int .i64 b3) := bw_cell ((B3.cell (p := ⟨bb, off + k * 12 + 6, none⟩) hbb).trans x6)
      have c_e7 : ∀ p : BW W3, p.w.cell? ⟨bb, off + k * 12 + 7, none⟩ = some (.int .i64 c1) := bw_cell ((B3.cell (p := ⟨bb, off + k * 12 + 7, none⟩) hbb).trans x7)
      have c_e8 : ∀ p : BW W3, p.w.cell? ⟨bb, off + k * 12 + 8, none⟩ = some (.int .i64 c2) := bw_cell ((B3.cell (p := ⟨bb, off + k * 12 + 8, none⟩) hbb).trans x8)
      have c_e9 : ∀ p : BW W3, p.w.cell? ⟨bb, off + k * 12 + 9, none⟩ = some (.int .i64 c3) := bw_cell ((B3.cell (p := ⟨bb, off + k * 12 + 9, none⟩) hbb).trans x9)
      have c_e10 : ∀ p : BW W3, p.w.cell? ⟨bb, off + k * 12 + 10, none⟩ = some (.int .i64 r) := bw_cell ((B3.cell (p := ⟨bb, off + k * 12 + 10, none⟩) hbb).trans x10)
      have c_e11 : ∀ p : BW W3, p.w.cell? ⟨bb, off + k * 12 + 11, none⟩ = some (.int .i64 m) := bw_cell ((B3.cell (p := ⟨bb, off + k * 12 + 11, none⟩) hbb).trans x11)
      obtain ⟨p3, hp3⟩ : ∃ p : BW W3, p.w = W3 := ⟨BW.start W3, rfl⟩
      rw [← hp3]
      clear hp3
      have hj3 := own_below (HJ.out b) hj2 (bw_below B3 p3)
      have hk3 : KeepsBut W1.heap.size b V0 p3.w := by rw [HV0.out]; exact keepsBut_below (bw_below B3 p3)
      have hy3 := k_y2.below (bw_below B3 p3)
      gi_wp2
      refine ⟨fun _ h => (by cases h), ?_⟩
      gi_wp2
      exact ⟨b, hk3, FreshRow.same _ _, ⟨by rw [HSN.out, HAN.out (by simp), List.append_nil]; exact hj3, hy3⟩, hne⟩
    | true =>
      have c_y_0 := bwc1 (k_y)
      obtain ⟨c_r_0, c_r_1, c_r_2, c_r_3, c_r_4, c_r_5, c_r_6⟩ := bwc7 (k_r)
      have c_l_0 := bwc1 (k_l)
      have c_e0 : ∀ p : BW V2, p.w.cell? ⟨bb, off + k * 12, none⟩ = some (.int .i64 kk) := bw_cell ((B1.cell (p := ⟨bb, off + k * 12, none⟩) hbb).trans x0)
      have c_e1 : ∀ p : BW V2, p.w.cell? ⟨bb, off + k * 12 + 1, none⟩ = some (.int .i64 a1) := bw_cell ((B1.cell (p := ⟨bb, off + k * 12 + 1, none⟩) hbb).trans x1)
      have c_e2 : ∀ p : BW V2, p.w.cell? ⟨bb, off + k * 12 + 2, none⟩ = some (.int .i64 a2) := bw_cell ((B1.cell (p := ⟨bb, off + k * 12 + 2, none⟩) hbb).trans x2)
      have c_e3 : ∀ p : BW V2, p.w.cell? ⟨bb, off + k * 12 + 3, none⟩ = some (.int .i64 a3) := bw_cell ((B1.cell (p := ⟨bb, off + k * 12 + 3, none⟩) hbb).trans x3)
      have c_e4 : ∀ p : BW V2, p.w.cell? ⟨bb, off + k * 12 + 4, none⟩ = some (.int .i64 b1) := bw_cell ((B1.cell (p := ⟨bb, off + k * 12 + 4, none⟩) hbb).trans x4)
      have c_e5 : ∀ p : BW V2, p.w.cell? ⟨bb, off + k * 12 + 5, none⟩ = some (.int .i64 b2) := bw_cell ((B1.cell (p := ⟨bb, off + k * 12 + 5, none⟩) hbb).trans x5)
      have c_e6 : ∀ p : BW V2, p.w.cell? ⟨bb, off + k * 12 + 6, none⟩ = some (.int .i64 b3) := bw_cell ((B1.cell (p := ⟨bb, off + k * 12 + 6, none⟩) hbb).trans x6)
      have c_e7 : ∀ p : BW V2, p.w.cell? ⟨bb, off + k * 12 + 7, none⟩ = some (.int .i64 c1) := bw_cell ((B1.cell (p := ⟨bb, off + k * 12 + 7, none⟩) hbb).trans x7)
      have c_e8 : ∀ p : BW V2, p.w.cell? ⟨bb, off + k * 12 + 8, none⟩ = some (.int .i64 c2) := bw_cell ((B1.cell (p := ⟨bb, off + k * 12 + 8, none⟩) hbb).trans x8)
      have c_e9 : ∀ p : BW V2, p.w.cell? ⟨bb, off + k * 12 + 9, none⟩ = some (.int .i64 c3) := bw_cell ((B1.cell (p := ⟨bb, off + k * 12 + 9, none⟩) hbb).trans x9)
      have c_e10 : ∀ p : BW V2, p.w.cell? ⟨bb, off + k * 12 + 10, none⟩ = some (.int .i64 r) := bw_cell ((B1.cell (p := ⟨bb, off + k * 12 + 10, none⟩) hbb).trans x10)
      have c_e11 : ∀ p : BW V2, p.w.cell? ⟨bb, off + k * 12 + 11, none⟩ = some (.int .i64 m) := bw_cell ((B1.cell (p := ⟨bb, off + k * 12 + 11, none⟩) hbb).trans x11)
      obtain ⟨p1, hp1⟩ : ∃ p : BW V2, p.w = V2 := ⟨BW.start V2, rfl⟩
      rw [← hp1]
      clear hp1
      gi_upto_region 4 with (fail)
      refine region_in (by kernel_rfl) (by kernel_rfl) (fun _ _ h => h) ?_
      refine any_late 9 11 27 (by kernel_rfl) rfl rfl rfl (fun _ _ _ _ h => h) ?_
      refine any_region_float (t := 30) (zs := #[.int .i64 0, .int .i64 0]) 11 10 6 37 (by kernel_rfl) (by kernel_rfl) (by kernel_rfl) (by kernel_rfl) rfl ?_ ?_
      · intro ev wx
        simp [execOp, go_sem]
      apply Exists.intro
      refine ⟨?_, ?_⟩
      · intro wb' hwb'
        have d_y_0 := bwc1 (k_y.below hwb')
        obtain ⟨d_r_0, d_r_1, d_r_2, d_r_3, d_r_4, d_r_5, d_r_6⟩ := bwc7 (k_r.below hwb')
        have d_l_0 := bwc1 (k_l.below hwb')
        have d_e0 : ∀ q : BW wb', q.w.cell? ⟨bb, off + k * 12, none⟩ = some (.int .i64 kk) := bw_cell ((hwb'.cell (p := ⟨bb, off + k * 12, none⟩) (Nat.lt_of_lt_of_le hbb B1.size)).trans ((B1.cell (p := ⟨bb, off + k * 12, none⟩) hbb).trans x0))
        have d_e1 : ∀ q : BW wb', q.w.cell? ⟨bb, off + k * 12 + 1, none⟩ = some (.int .i64 a1) := bw_cell ((hwb'.cell (p := ⟨bb, off + k * 12 + 1, none⟩) (Nat.lt_of_lt_of_le hbb B1.size)).trans ((B1.cell (p := ⟨bb, off + k * 12 + 1, none⟩) hbb).trans x1))
        have d_e2 : ∀ q : BW wb', q.w.cell? ⟨bb, off + k * 12 + 2, none⟩ = some (.int .i64 a2) := bw_cell ((hwb'.cell (p := ⟨bb, off + k * 12 + 2, none⟩) (Nat.lt_of_lt_of_le hbb B1.size)).trans ((B1.cell (p := ⟨bb, off + k * 12 + 2, none⟩) hbb).trans x2))
        have d_e3 : ∀ q : BW wb', q.w.cell? ⟨bb, off + k * 12 + 3, none⟩ = some (.int .i64 a3) := bw_cell ((hwb'.cell (p := ⟨bb, off + k * 12 + 3, none⟩) (Nat.lt_of_lt_of_le hbb B1.size)).trans ((B1.cell (p := ⟨bb, off + k * 12 + 3, none⟩) hbb).trans x3))
        have d_e4 : ∀ q : BW wb', q.w.cell? ⟨bb, off + k * 12 + 4, none⟩ = some (.int .i64 b1) := bw_cell ((hwb'.cell (p := ⟨bb, off + k * 12 + 4, none⟩) (Nat.lt_of_lt_of_le hbb B1.size)).trans ((B1.cell (p := ⟨bb, off + k * 12 + 4, none⟩) hbb).trans x4))
        have d_e5 : ∀ q : BW wb', q.w.cell? ⟨bb, off + k * 12 + 5, none⟩ = some (.int .i64 b2) := bw_cell ((hwb'.cell (p := ⟨bb, off + k * 12 + 5, none⟩) (Nat.lt_of_lt_of_le hbb B1.size)).trans ((B1.cell (p := ⟨bb, off + k * 12 + 5, none⟩) hbb).trans x5))
        have d_e6 : ∀ q : BW wb', q.w.cell? ⟨bb, off + k * 12 + 6, none⟩ = some (.int .i64 b3) := bw_cell ((hwb'.cell (p := ⟨bb, off + k * 12 + 6, none⟩) (Nat.lt_of_lt_of_le hbb B1.size)).trans ((B1.cell (p := ⟨bb, off + k * 12 + 6, none⟩) hbb).trans x6))
        have d_e7 : ∀ q : BW wb', q.w.cell? ⟨bb, off + k * 12 + 7, none⟩ = some (.int .i64 c1) := bw_cell ((hwb'.cell (p := ⟨bb, off + k * 12 + 7, none⟩) (Nat.lt_of_lt_of_le hbb B1.size)).trans ((B1.cell (p := ⟨bb, off + k * 12 + 7, none⟩) hbb).trans x7))
        have d_e8 : ∀ q : BW wb', q.w.cell? ⟨bb, off + k * 12 + 8, none⟩ = some (.int .i64 c2) := bw_cell ((hwb'.cell (p := ⟨bb, off + k * 12 + 8, none⟩) (Nat.lt_of_lt_of_le hbb B1.size)).trans ((B1.cell (p := ⟨bb, off + k * 12 + 8, none⟩) hbb).trans x8))
        have d_e9 : ∀ q : BW wb', q.w.cell? ⟨bb, off + k * 12 + 9, none⟩ = some (.int .i64 c3) := bw_cell ((hwb'.cell (p := ⟨bb, off + k * 12 + 9, none⟩) (Nat.lt_of_lt_of_le hbb B1.size)).trans ((B1.cell (p := ⟨bb, off + k * 12 + 9, none⟩) hbb).trans x9))
        have d_e10 : ∀ q : BW wb', q.w.cell? ⟨bb, off + k * 12 + 10, none⟩ = some (.int .i64 r) := bw_cell ((hwb'.cell (p := ⟨bb, off + k * 12 + 10, none⟩) (Nat.lt_of_lt_of_le hbb B1.size)).trans ((B1.cell (p := ⟨bb, off + k * 12 + 10, none⟩) hbb).trans x10))
        have d_e11 : ∀ q : BW wb', q.w.cell? ⟨bb, off + k * 12 + 11, none⟩ = some (.int .i64 m) := bw_cell ((hwb'.cell (p := ⟨bb, off + k * 12 + 11, none⟩) (Nat.lt_of_lt_of_le hbb B1.size)).trans ((B1.cell (p := ⟨bb, off + k * 12 + 11, none⟩) hbb).trans x11))
        simp only [edgeAt, maskAt, List.take_succ_cons, List.take_zero]
        repeat (go_big_quiet_step (first
          | (go_at_call 22; (first | (with_reducible exact bw_call KH.out _)))))
        refine wpQuiet_nil ?_
        exact rfl
      intro W2 g_t hW hg k_t
      have B2 : Below V2.heap.size V2 W2 := B1.trans (hW.mono B1.size)
      have o_t : V2.heap.size ≤ g_t := Nat.le_trans B1.size hg
      have l_t : gl < g_t := Nat.lt_of_lt_of_le k_l.lt hg
      have l_t_y : W.heap.size < g_t := Nat.lt_of_lt_of_le k_y.lt hg
      have l_t_r : gr < g_t := Nat.lt_of_lt_of_le k_r.lt hg
      have k_y := k_y.below hW
      have k_r := k_r.below hW
      have k_l := k_l.below hW
      clear hW hg B1
      clear c_y_0 c_r_0 c_r_1 c_r_2 c_r_3 c_r_4 c_r_5 c_r_6 c_l_0 c_e0 c_e1 c_e2 c_e3 c_e4 c_e5 c_e6 c_e7 c_e8 c_e9 c_e10 c_e11
      simp only [edgeAt, List.drop_succ_cons, List.drop_zero, Act.put, List.setIfInBounds_toArray, List.set_cons_zero, List.set_cons_succ]
      have c_y_0 := bwc1 (k_y)
      obtain ⟨c_r_0, c_r_1, c_r_2, c_r_3, c_r_4, c_r_5, c_r_6⟩ := bwc7 (k_r)
      have c_l_0 := bwc1 (k_l)
      obtain ⟨c_t_0, c_t_1⟩ := bwc2 (k_t)
      obtain ⟨f_t_0, f_t_1⟩ := bwf2 (k_t)
      have c_e0 : ∀ p : BW W2, p.w.cell? ⟨bb, off + k * 12, none⟩ = some (.int .i64 kk) := bw_cell ((B2.cell (p := ⟨bb, off + k * 12, none⟩) hbb).trans x0)
      have c_e1 : ∀ p : BW W2, p.w.cell? ⟨bb, off + k * 12 + 1, none⟩ = some (.int .i64 a1) := bw_cell ((B2.cell (p := ⟨bb, off + k * 12 + 1, none⟩) hbb).trans x1)
      have c_e2 : ∀ p : BW W2, p.w.cell? ⟨bb, off + k * 12 + 2, none⟩ = some (.int .i64 a2) := bw_cell ((B2.cell (p := ⟨bb, off + k * 12 + 2, none⟩) hbb).trans x2)
      have c_e3 : ∀ p : BW W2, p.w.cell? ⟨bb, off + k * 12 + 3, none⟩ = some (.int .i64 a3) := bw_cell ((B2.cell (p := ⟨bb, off + k * 12 + 3, none⟩) hbb).trans x3)
      have c_e4 : ∀ p : BW W2, p.w.cell? ⟨bb, off + k * 12 + 4, none⟩ = some (.int .i64 b1) := bw_cell ((B2.cell (p := ⟨bb, off + k * 12 + 4, none⟩) hbb).trans x4)
      have c_e5 : ∀ p : BW W2, p.w.cell? ⟨bb, off + k * 12 + 5, none⟩ = some (.int .i64 b2) := bw_cell ((B2.cell (p := ⟨bb, off + k * 12 + 5, none⟩) hbb).trans x5)
      have c_e6 : ∀ p : BW W2, p.w.cell? ⟨bb, off + k * 12 + 6, none⟩ = some (.int .i64 b3) := bw_cell ((B2.cell (p := ⟨bb, off + k * 12 + 6, none⟩) hbb).trans x6)
      have c_e7 : ∀ p : BW W2, p.w.cell? ⟨bb, off + k * 12 + 7, none⟩ = some (.int .i64 c1) := bw_cell ((B2.cell (p := ⟨bb, off + k * 12 + 7, none⟩) hbb).trans x7)
      have c_e8 : ∀ p : BW W2, p.w.cell? ⟨bb, off + k * 12 + 8, none⟩ = some (.int .i64 c2) := bw_cell ((B2.cell (p := ⟨bb, off + k * 12 + 8, none⟩) hbb).trans x8)
      have c_e9 : ∀ p : BW W2, p.w.cell? ⟨bb, off + k * 12 + 9, none⟩ = some (.int .i64 c3) := bw_cell ((B2.cell (p := ⟨bb, off + k * 12 + 9, none⟩) hbb).trans x9)
      have c_e10 : ∀ p : BW W2, p.w.cell? ⟨bb, off + k * 12 + 10, none⟩ = some (.int .i64 r) := bw_cell ((B2.cell (p := ⟨bb, off + k * 12 + 10, none⟩) hbb).trans x10)
      have c_e11 : ∀ p : BW W2, p.w.cell? ⟨bb, off + k * 12 + 11, none⟩ = some (.int .i64 m) := bw_cell ((B2.cell (p := ⟨bb, off + k * 12 + 11, none⟩) hbb).trans x11)
      obtain ⟨p2, hp2⟩ : ∃ p : BW W2, p.w = W2 := ⟨BW.start W2, rfl⟩
      rw [← hp2]
      clear hp2
      go_wp2
      obtain ⟨W3, hW3⟩ : ∃ W, W = (p2.w.setCell ⟨g_t, 0, none⟩ (.int .i64 rn)).setCell ⟨g_t, 1, none⟩ (.int .i64 rd) := ⟨_, rfl⟩
      have B3 : Below V2.heap.size V2 W3 := by rw [hW3]; exact blp2 (bw_below B2 p2) (by omega)
      have k_y := bkoe2 hW3 (k_y.below p2.h) (by omega)
      have k_r := bkoe2 hW3 (k_r.below p2.h) (by omega)
      have k_l := bkoe2 hW3 (k_l.below p2.h) (by omega)
      have k_t := bkpe2 hW3 (k_t.below p2.h)
      rw [← hW3]
      clear hW3
      clear B2
      clear c_y_0 c_r_0 c_r_1 c_r_2 c_r_3 c_r_4 c_r_5 c_r_6 c_l_0 c_t_0 c_t_1 f_t_0 f_t_1 c_e0 c_e1 c_e2 c_e3 c_e4 c_e5 c_e6 c_e7 c_e8 c_e9 c_e10 c_e11
      have c_y_0 := bwc1 (k_y)
      obtain ⟨c_r_0, c_r_1, c_r_2, c_r_3, c_r_4, c_r_5, c_r_6⟩ := bwc7 (k_r)
      have c_l_0 := bwc1 (k_l)
      obtain ⟨c_t_0, c_t_1⟩ := bwc2 (k_t)
      have c_e0 : ∀ p : BW W3, p.w.cell? ⟨bb, off + k * 12, none⟩ = some (.int .i64 kk) := bw_cell ((B3.cell (p := ⟨bb, off + k * 12, none⟩) hbb).trans x0)
      have c_e1 : ∀ p : BW W3, p.w.cell? ⟨bb, off + k * 12 + 1, none⟩ = some (.int .i64 a1) := bw_cell ((B3.cell (p := ⟨bb, off + k * 12 + 1, none⟩) hbb).trans x1)
      have c_e2 : ∀ p : BW W3, p.w.cell? ⟨bb, off + k * 12 + 2, none⟩ = some (.int .i64 a2) := bw_cell ((B3.cell (p := ⟨bb, off + k * 12 + 2, none⟩) hbb).trans x2)
      have c_e3 : ∀ p : BW W3, p.w.cell? ⟨bb, off + k * 12 + 3, none⟩ = some (.int .i64 a3) := bw_cell ((B3.cell (p := ⟨bb, off + k * 12 + 3, none⟩) hbb).trans x3)
      have c_e4 : ∀ p : BW W3, p.w.cell? ⟨bb, off + k * 12 + 4, none⟩ = some (.int .i64 b1) := bw_cell ((B3.cell (p := ⟨bb, off + k * 12 + 4, none⟩) hbb).trans x4)
      have c_e5 : ∀ p : BW W3, p.w.cell? ⟨bb, off + k * 12 + 5, none⟩ = some (.int .i64 b2) := bw_cell ((B3.cell (p := ⟨bb, off + k * 12 + 5, none⟩) hbb).trans x5)
      have c_e6 : ∀ p : BW W3, p.w.cell? ⟨bb, off + k * 12 + 6, none⟩ = some (.int .i64 b3) := bw_cell ((B3.cell (p := ⟨bb, off + k * 12 + 6, none⟩) hbb).trans x6)
      have c_e7 : ∀ p : BW W3, p.w.cell? ⟨bb, off + k * 12 + 7, none⟩ = some (.int .i64 c1) := bw_cell ((B3.cell (p := ⟨bb, off + k * 12 + 7, none⟩) hbb).trans x7)
      have c_e8 : ∀ p : BW W3, p.w.cell? ⟨bb, off + k * 12 + 8, none⟩ = some (.int .i64 c2) := bw_cell ((B3.cell (p := ⟨bb, off + k * 12 + 8, none⟩) hbb).trans x8)
      have c_e9 : ∀ p : BW W3, p.w.cell? ⟨bb, off + k * 12 + 9, none⟩ = some (.int .i64 c3) := bw_cell ((B3.cell (p := ⟨bb, off + k * 12 + 9, none⟩) hbb).trans x9)
      have c_e10 : ∀ p : BW W3, p.w.cell? ⟨bb, off + k * 12 + 10, none⟩ = some (.int .i64 r) := bw_cell ((B3.cell (p := ⟨bb, off + k * 12 + 10, none⟩) hbb).trans x10)
      have c_e11 : ∀ p : BW W3, p.w.cell? ⟨bb, off + k * 12 + 11, none⟩ = some (.int .i64 m) := bw_cell ((B3.cell (p := ⟨bb, off + k * 12 + 11, none⟩) hbb).trans x11)
      obtain ⟨p3, hp3⟩ : ∃ p : BW W3, p.w = W3 := ⟨BW.start W3, rfl⟩
      rw [← hp3]
      clear hp3
      have hj3 := own_below (HJ.out b) hj2 (bw_below B3 p3)
      have hk3 : KeepsBut W1.heap.size b V0 p3.w := by rw [HV0.out]; exact keepsBut_below (bw_below B3 p3)
      have hy3 := k_y2.below (bw_below B3 p3)
      have hsp : hOver P n (o1, o2, o3) (d1, d2, d3) fr zs = hOver P n (o1, o2, o3) (d1, d2, d3) fr pre ++ ((k : Int), rn, rd) :: hOver P n (o1, o2, o3) (d1, d2, d3) fr rest := by rw [HX.out, hOver_split, HAY.out (by simp)]; rfl
      obtain ⟨fn, tmps, assign, body, hy, hR⟩ := HY.out _ _ _ b p3.w hsp hj3
      clear hsp
      gi_wp2
      refine ⟨rfl, hR.mono ?_⟩
      rintro e W4 ⟨b', hk4, hf4, (⟨rfl, hj4⟩ | ⟨rfl, hj4⟩)⟩
      · clear hy hR
        gi_wp2
        exact ⟨b', hk3.trans (hk4.mono hle), hf4.mono (Nat.le_trans hsz (bw_below B3 p3).size), ⟨by rw [HSN.out, HAY.out (by simp)]; exact hj4, hk4.bk (Nat.le_refl _) (fun e => hne e.symm) hy3⟩, hf4.ne hy3.lt hne⟩
      · clear hy hR
        gi_wp2
        exact ⟨b', hk3.trans (hk4.mono hle), hf4.mono (Nat.le_trans hsz (bw_below B3 p3).size), rfl, _, hj4⟩
  case done =>
    rintro D b V hD ⟨⟨hj, k_y⟩, hne⟩ hK
    gi_wp2
    refine ⟨by simp, .inl ⟨_, _, rfl, run_takeDeferred hK, ?_⟩⟩
    exact ⟨_, results_none rfl _ _ _, ⟨_, rfl⟩, .inl ⟨b, (HJ.out b).putObj _ hj (by omega) hK rfl⟩⟩
  case stop =>
    rintro D c pre b V hD ⟨rfl, s, hj⟩ hK
    gi_wp2
    refine ⟨by simp, .inl ⟨_, _, rfl, run_takeDeferred hK, ?_⟩⟩
    exact ⟨_, results_none rfl _ _ _, ⟨_, rfl⟩, .inr ⟨s, b, (HJx.out b).putObj _ hj (by omega) hK rfl⟩⟩

end

end Go.Proofs.Ytokkankfaofooaa
