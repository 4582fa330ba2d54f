/- Contracts of the landed mesh: edges, Closed: the walks. -/
import Derived.Test.YtneacfhoinaeeaaMc31
import Derived.Test.YtneacfhoinaeeaaMc15
import Derived.Deep.WholeRow


namespace Go.Proofs.Ytneacfhoinaeeaa
section

open Go.RowKit Go.Proofs.Sky

set_option linter.unusedVariables false

set_option linter.unusedSimpArgs false

/-- A whole block stored, its cells by name. -/
theorem wp_store_named {P : Program} {K : Act → World → Prop} {Q : Exit → Act → World → Prop} {a : Act} {w : World} {dst : Option Nat} {tz ty : TypeId} {ps : String} {af : Array Edge} {gd : Option (Nat × Bool)} {x y : Operand} {g : Nat} {t : TypeId} {G H : Array Value}
    (hx : a.eval x = .pointer (some ⟨g, 0, none⟩)) (hy : a.eval y = .agg H) (hg : Bk w g t G) (hi : (P.info? ty).map (·.size) = some H.size) (hs : G.size = H.size) (h1 : H.all (·.oneCell') = true) (h : K (a.put dst undef) (w.setRow g H)) :
    Oper.wp P { dst := dst, op := .store ty x y, type := tz, pos := ps, after := af, guard := gd } a w K Q :=
  wp_store_row _ x y rfl g H hx hy t G hg (hs ▸ hi) hs h1 h

theorem below_row19 {w0 w : World} {B b : Nat} {cs : Array Value} (h : Below B w0 w) (hB : B ≤ b) : Below B w0 (w.setRow b cs) :=
  ⟨h.os, h.tape, h.output, by simp; exact h.size, fun i hi => (setRow_other w b i cs (by omega)).trans (h.block i hi)⟩

/-- One result, a whole block. -/
theorem results_cell19 {P : Program} {fn : Func} {p : Tmp} {ty : TypeId} (h : fn.results = #[.cell p ty]) (tmps : Array Value) (w : World) (g : Nat) (t : TypeId) (cs : Array Value) (d : TypeDesc)
    (hp : tmps.getD p undef = .pointer (some ⟨g, 0, none⟩)) (hg : Bk w g t cs) (hu : P.underlying ty = some d) (hd : (match d with | .struct _ | .array _ _ => true | _ => false) = true) (hi : (P.info? ty).map (·.size) = some cs.size) :
    (results fn tmps).run P w = .ok (.agg cs) w := by
  have hp' : tmps[p]?.getD undef = .pointer (some ⟨g, 0, none⟩) := by simpa using hp
  simp [results, h, hp', asAddr, run_loadVar_row w g t ty cs (0, 0) d hg hu hd hi]

set_option maxRecDepth 100000 in
set_option maxHeartbeats 8000000 in
theorem mesh_edges (kk a1 a2 a3 b1 b2 b3 c1 c2 c3 r m : Int) (w : World) :
    Calls Try.prog 31 #[.agg #[.int .i64 kk, .int .i64 a1, .int .i64 a2, .int .i64 a3, .int .i64 b1, .int .i64 b2, .int .i64 b3, .int .i64 c1, .int .i64 c2, .int .i64 c3, .int .i64 r, .int .i64 m]] w fun en w' => en = .returned (.agg #[.int .i64 a1, .int .i64 a2, .int .i64 a3, .int .i64 b1, .int .i64 b2, .int .i64 b3, .int .i64 b1, .int .i64 b2, .int .i64 b3, .int .i64 c1, .int .i64 c2, .int .i64 c3, .int .i64 c1, .int .i64 c2, .int .i64 c3, .int .i64 a1, .int .i64 a2, .int .i64 a3]) ∧ Below w.heap.size w w' := by
  obtain ⟨LA, hLA⟩ : ∃ LA : Array Value, LA = #[.int .i64 a1, .int .i64 a2, .int .i64 a3, .int .i64 b1, .int .i64 b2, .int .i64 b3, .int .i64 b1, .int .i64 b2, .int .i64 b3, .int .i64 c1, .int .i64 c2, .int .i64 c3, .int .i64 c1, .int .i64 c2, .int .i64 c3, .int .i64 a1, .int .i64 a2, .int .i64 a3] := ⟨_, rfl⟩
  have hi18 : Hid ((Try.prog.info? 66).map (·.size) = some LA.size) := Lib.hid (by rw [hLA]; kernel_rfl)
  have ho18 : Hid ((#[.int .i64 0, .int .i64 0, .int .i64 0, .int .i64 0, .int .i64 0, .int .i64 0, .int .i64 0, .int .i64 0, .int .i64 0, .int .i64 0, .int .i64 0, .int .i64 0, .int .i64 0, .int .i64 0, .int .i64 0, .int .i64 0, .int .i64 0, .int .i64 0] : Array Value).size = LA.size) := Lib.hid (by rw [hLA]; rfl)
  have h118 : Hid (LA.all (·.oneCell') = true) := Lib.hid (by rw [hLA]; kernel_rfl)
  have hb18 : ∀ w, (Instr.build 66 #[(0, .agg #[.int .i64 a1, .int .i64 a2, .int .i64 a3, .int .i64 b1, .int .i64 b2, .int .i64 b3]), (1, .agg #[.int .i64 b1, .int .i64 b2, .int .i64 b3, .int .i64 c1, .int .i64 c2, .int .i64 c3]), (2, .agg #[.int .i64 c1, .int .i64 c2, .int .i64 c3, .int .i64 a1, .int .i64 a2, .int .i64 a3])]).run Try.prog w = .ok (.agg LA) w := fun _ => by rw [hLA]; kernel_rfl
  have HLA := Lib.hid hLA
  clear hLA
  rw [← HLA.out]
  go_enter Try.func31, Try.ntmps31
  go_upto_region 1 with (fail)
  obtain ⟨W1, hW1⟩ : ∃ W, W = (w.alloc (.cells #[.int .i64 kk, .int .i64 a1, .int .i64 a2, .int .i64 a3, .int .i64 b1, .int .i64 b2, .int .i64 b3, .int .i64 c1, .int .i64 c2, .int .i64 c3, .int .i64 r, .int .i64 m] 45)).alloc (.cells #[.int .i64 0, .int .i64 0, .int .i64 0, .int .i64 0, .int .i64 0, .int .i64 0, .int .i64 0, .int .i64 0, .int .i64 0, .int .i64 0, .int .i64 0, .int .i64 0, .int .i64 0, .int .i64 0, .int .i64 0, .int .i64 0, .int .i64 0, .int .i64 0] 66) := ⟨_, rfl⟩
  obtain ⟨k_p, k_r, B1⟩ := st2 hW1
  rw [← hW1]
  clear hW1
  have l_r : w.heap.size < w.heap.size + 1 := by omega
  generalize w.heap.size + 1 = g_r at *
  obtain ⟨c_p_0, c_p_1, c_p_2, c_p_3, c_p_4, c_p_5, c_p_6, c_p_7, c_p_8, c_p_9, c_p_10, c_p_11⟩ := bwc12 (k_p)
  obtain ⟨p1, hp1⟩ : ∃ p : BW W1, p.w = W1 := ⟨BW.start W1, rfl⟩
  rw [← hp1]
  clear hp1
  have k_rq : ∀ q : BW W1, Bk q.w g_r 66 #[.int .i64 0, .int .i64 0, .int .i64 0, .int .i64 0, .int .i64 0, .int .i64 0, .int .i64 0, .int .i64 0, .int .i64 0, .int .i64 0, .int .i64 0, .int .i64 0, .int .i64 0, .int .i64 0, .int .i64 0, .int .i64 0, .int .i64 0, .int .i64 0] := fun q => k_r.below q.h
  repeat (first | ((with_reducible refine wp_store_named (H := LA) ?hx ?hy (k_rq p1) ?hi ?ho ?h1 ?_); (case hx => rfl); (case hy => first | rfl | (rw [HLA.out]; rfl)); (case hi => exact hi18.out); (case ho => exact ho18.out); (case h1 => exact h118.out)) | go_values | go_skip | go_guarded | go_step | go_upon)
  exact bodyPost_ret (v := .agg LA) (results_cell19 rfl _ _ g_r _ LA _ rfl (setRow_heap p1.w g_r _ _ _ (0, 0) (k_rq p1)) Try.underlying66 rfl hi18.out) rfl ⟨rfl, below_row19 (bw_below B1 p1) (by omega)⟩

/-- The edges of a thing, one by one, and what they count to. -/
def edgN (p : Pr) (C : Ed → Int) : Nat → (Ed → Int)
  | 0 => C
  | 1 => netE C (p.a, p.b)
  | 2 => netE (netE C (p.a, p.b)) (p.b, p.c)
  | _ => netP C p

def edgAt (p : Pr) (j : Nat) : Ed := if j = 0 then (p.a, p.b) else if j = 1 then (p.b, p.c) else (p.c, p.a)

theorem edgN_next (p : Pr) (C : Ed → Int) (j : Nat) (hj : j < 3) : edgN p C (j + 1) = bump (bump (edgN p C j) (edgAt p j) 1) (rv (edgAt p j)) (-1) := by
  obtain rfl | rfl | rfl : j = 0 ∨ j = 1 ∨ j = 2 := by omega
  · rfl
  · rfl
  · rfl

theorem netE_near (C : Ed → Int) (e y : Ed) : C y - 1 ≤ netE C e y ∧ netE C e y ≤ C y + 1 := by
  have one_le : ∀ (q : Prop) [Decidable q], 0 ≤ one q ∧ one q ≤ 1 := fun q _ => by unfold one; split <;> omega
  rw [netE_at]
  have h1 := one_le (y = e)
  have h2 := one_le (rv y = e)
  omega

theorem bump_near (C : Ed → Int) (e y : Ed) (d : Int) (hd : d = 1 ∨ d = -1) : C y - 1 ≤ bump C e d y ∧ bump C e d y ≤ C y + 1 := by
  unfold bump
  split <;> omega

theorem edgN_small (p : Pr) (C : Ed → Int) (N : Int) (h : ∀ y, -N ≤ C y ∧ C y ≤ N) (j : Nat) (hj : j ≤ 3) (y : Ed) : -(N + 3) ≤ edgN p C j y ∧ edgN p C j y ≤ N + 3 := by
  have h0 := h y
  have h1 := netE_near C (p.a, p.b) y
  have h2 := netE_near (netE C (p.a, p.b)) (p.b, p.c) y
  have h3 := netE_near (netE (netE C (p.a, p.b)) (p.b, p.c)) (p.c, p.a) y
  obtain rfl | rfl | rfl | rfl : j = 0 ∨ j = 1 ∨ j = 2 ∨ j = 3 := by omega
  · show _ ≤ C y ∧ C y ≤ _; omega
  · show _ ≤ netE C (p.a, p.b) y ∧ netE C (p.a, p.b) y ≤ _; omega
  · show _ ≤ netE (netE C (p.a, p.b)) (p.b, p.c) y ∧ netE (netE C (p.a, p.b)) (p.b, p.c) y ≤ _; omega
  · show _ ≤ netE (netE (netE C (p.a, p.b)) (p.b, p.c)) (p.c, p.a) y ∧ netE (netE (netE C (p.a, p.b)) (p.b, p.c)) (p.c, p.a) y ≤ _; omega

theorem edgAt_I {p : Pr} (h : p.I) (j : Nat) : IE (edgAt p j) ∧ IE (rv (edgAt p j)) := by
  obtain ⟨_, ha, hb, hc, _, _⟩ := h
  unfold edgAt
  split
  · exact ⟨⟨ha, hb⟩, hb, ha⟩
  · split
    · exact ⟨⟨hb, hc⟩, hc, hb⟩
    · exact ⟨⟨hc, ha⟩, ha, hc⟩

theorem mapis_lt {w : World} {b n : Nat} {C : Ed → Int} (h : MapIs w b n C) : b < w.heap.size := by
  obtain ⟨D, h1, _⟩ := h
  exact h1.lt

theorem net_IE {l : List Pr} (hI : ∀ p ∈ l, p.I) {y : Ed} (h : ¬ IE y) : net l y = 0 := by
  rw [net_tot]
  have h' : ¬ IE (rv y) := fun e => h ⟨e.2, e.1⟩
  have hc : ∀ p ∈ l, ∀ z : Ed, ¬ IE z → cnt p z = 0 := fun p hp z hz => by
    obtain ⟨_, ha, hb, hc, _, _⟩ := hI p hp
    unfold cnt
    rw [one_neg (fun e => hz (by rw [e]; exact ⟨ha, hb⟩)), one_neg (fun e => hz (by rw [e]; exact ⟨hb, hc⟩)), one_neg (fun e => hz (by rw [e]; exact ⟨hc, ha⟩))]
    rfl
  clear hI
  induction l with
  | nil => rfl
  | cons p r ih =>
    show cnt p y - cnt p (rv y) + tot r y = 0
    rw [hc p List.mem_cons_self y h, hc p List.mem_cons_self _ h', ih (fun q hq => hc q (List.mem_cons_of_mem _ hq))]
    rfl

set_option maxRecDepth 100000 in
set_option maxHeartbeats 8000000 in
theorem mesh_Closed (v : Value) (l : List Pr) (w : World) (hs : Sll w v 12 pcells l) (hI : ∀ p ∈ l, p.I) (hn : l.length ≤ 1000000) :
    Calls Try.prog 14 #[v] w fun en w' => en = .returned (.bool (mClosed l)) ∧ Below w.heap.size w w' := by
  obtain ⟨a, cap, rfl, hmx, hS⟩ := hs
  obtain ⟨n, hnn⟩ : ∃ n, n = l.length := ⟨_, rfl⟩
  have HNN := Lib.hid hnn
  rw [← hnn] at hn ⊢
  have HS := Lib.hid hS
  have HI := Lib.hid hI
  have hmm := @run_makeMap Try.prog
  clear hS hI hnn hmx
  go_enter Try.func14, Try.ntmps14
  go_wp2
  have hmade : MapIs (w.alloc (.map #[] 0)) w.heap.size 0 (net (l.take 0)) := mapis_made w
  have hb0 : Below w.heap.size w (w.alloc (.map #[] 0)) := (Below.refl _ _).alloc (Nat.le_refl _) _
  go_loopw [13] (fun i wr => ∃ k : Nat, k ≤ n ∧ i = .int .i64 k ∧ MapIs wr w.heap.size (6 * k) (net (l.take k)) ∧ Below w.heap.size w wr ∧ Hid (∀ p ∈ l.take k, p.k = 1)) (fun i _ => n - (intOf i).toNat)
  case atStart => exact ⟨0, by omega, rfl, hmade, hb0, Lib.hid (fun p hp => by simp at hp)⟩
  case round =>
    clear hmade hb0 hmm
    obtain ⟨k, hk, rfl, hmap, BO, hones⟩ := hrel
    by_cases hlt : k < n
    · have hkl : k < l.length := by rw [← HNN.out]; exact hlt
      obtain ⟨b, off, rfl, hb, hcell⟩ := HS.out.resolve_left (by omega)
      have hx := hcell k hkl
      have B1 := BO
      have x0 : w.cell? ⟨b, off + k * 12, none⟩ = some (.int .i64 (l[k]).k) := hx 0 (by omega)
      have x1 : w.cell? ⟨b, off + k * 12 + 1, none⟩ = some (.int .i64 (l[k]).a.1) := hx 1 (by omega)
      have x2 : w.cell? ⟨b, off + k * 12 + 2, none⟩ = some (.int .i64 (l[k]).a.2.1) := hx 2 (by omega)
      have x3 : w.cell? ⟨b, off + k * 12 + 3, none⟩ = some (.int .i64 (l[k]).a.2.2) := hx 3 (by omega)
      have x4 : w.cell? ⟨b, off + k * 12 + 4, none⟩ = some (.int .i64 (l[k]).b.1) := hx 4 (by omega)
      have x5 : w.cell? ⟨b, off + k * 12 + 5, none⟩ = some (.int .i64 (l[k]).b.2.1) := hx 5 (by omega)
      have x6 : w.cell? ⟨b, off + k * 12 + 6, none⟩ = some (.int .i64 (l[k]).b.2.2) := hx 6 (by omega)
      have x7 : w.cell? ⟨b, off + k * 12 + 7, none⟩ = some (.int .i64 (l[k]).c.1) := hx 7 (by omega)
      have x8 : w.cell? ⟨b, off + k * 12 + 8, none⟩ = some (.int .i64 (l[k]).c.2.1) := hx 8 (by omega)
      have x9 : w.cell? ⟨b, off + k * 12 + 9, none⟩ = some (.int .i64 (l[k]).c.2.2) := hx 9 (by omega)
      have x10 : w.cell? ⟨b, off + k * 12 + 10, none⟩ = some (.int .i64 (l[k]).r) := hx 10 (by omega)
      have x11 : w.cell? ⟨b, off + k * 12 + 11, none⟩ = some (.int .i64 (l[k]).m) := hx 11 (by omega)
      have hIk := HI.out (l[k]) (List.getElem_mem hkl)
      have HMEM := Lib.hid (List.getElem_mem hkl)
      have HNX := Lib.hid (net_take hkl)
      have HTK := Lib.hid (show l.take (k + 1) = l.take k ++ [l[k]] by rw [List.take_add_one, List.getElem?_eq_getElem hkl]; rfl)
      clear hx hcell
      obtain ⟨pk, hpk⟩ : ∃ pk, pk = l[k] := ⟨_, rfl⟩
      rw [← hpk] at x0 x1 x2 x3 x4 x5 x6 x7 x8 x9 x10 x11 hIk HNX HTK HMEM
      clear hpk
      have HIK := Lib.hid hIk
      clear hIk
      have HSM0 : ∀ y, -(3 * 1000000) ≤ net (l.take k) y ∧ net (l.take k) y ≤ 3 * 1000000 := fun y => by
        have h1 := net_small (l.take k) y
        have h2 : (l.take k).length ≤ 1000000 := by rw [List.length_take]; omega
        omega
      have HSM := Lib.hid (fun j hj y => edgN_small pk (net (l.take k)) (3 * 1000000) HSM0 j hj y)
      clear HSM0
      have HED : ∀ j, edgAt pk j = if j = 0 then (pk.a, pk.b) else if j = 1 then (pk.b, pk.c) else (pk.c, pk.a) := fun j => rfl
      have HEDH := Lib.hid HED
      clear HED
      obtain ⟨C0, hC0⟩ : ∃ C0, C0 = net (l.take k) := ⟨_, rfl⟩
      rw [← hC0] at hmap HSM HNX
      clear hC0
      have HKIND := Lib.hid (show pk.k = 1 ∨ pk.k ≠ 1 from Classical.em _)
      obtain ⟨kk, ⟨a1, a2, a3⟩, ⟨b1, b2, b3⟩, ⟨c1, c2, c3⟩, r, m⟩ := pk
      dsimp only at x0 x1 x2 x3 x4 x5 x6 x7 x8 x9 x10 x11 HKIND HEDH
      obtain ⟨pq, hpq⟩ : ∃ pq : Pr, pq = ⟨kk, (a1, a2, a3), (b1, b2, b3), (c1, c2, c3), r, m⟩ := ⟨_, rfl⟩
      rw [← hpq] at HNX HTK HMEM HIK HSM HEDH
      have HPQ := Lib.hid hpq
      clear hpq
      have KE := Lib.hid (fun w => mesh_edges kk a1 a2 a3 b1 b2 b3 c1 c2 c3 r m w)
      have c_x0 : ∀ p : BW wr, p.w.cell? ⟨b, off + k * 12, none⟩ = some (.int .i64 kk) := bw_cell ((B1.cell (p := ⟨b, off + k * 12, none⟩) hb).trans x0)
      have c_x1 : ∀ p : BW wr, p.w.cell? ⟨b, off + k * 12 + 1, none⟩ = some (.int .i64 a1) := bw_cell ((B1.cell (p := ⟨b, off + k * 12 + 1, none⟩) hb).trans x1)
      have c_x2 : ∀ p : BW wr, p.w.cell? ⟨b, off + k * 12 + 2, none⟩ = some (.int .i64 a2) := bw_cell ((B1.cell (p := ⟨b, off + k * 12 + 2, none⟩) hb).trans x2)
      have c_x3 : ∀ p : BW wr, p.w.cell? ⟨b, off + k * 12 + 3, none⟩ = some (.int .i64 a3) := bw_cell ((B1.cell (p := ⟨b, off + k * 12 + 3, none⟩) hb).trans x3)
      have c_x4 : ∀ p : BW wr, p.w.cell? ⟨b, off + k * 12 + 4, none⟩ = some (.int .i64 b1) := bw_cell ((B1.cell (p := ⟨b, off + k * 12 + 4, none⟩) hb).trans x4)
      have c_x5 : ∀ p : BW wr, p.w.cell? ⟨b, off + k * 12 + 5, none⟩ = some (.int .i64 b2) := bw_cell ((B1.cell (p := ⟨b, off + k * 12 + 5, none⟩) hb).trans x5)
      have c_x6 : ∀ p : BW wr, p.w.cell? ⟨b, off + k * 12 + 6, none⟩ = some (.int .i64 b3) := bw_cell ((B1.cell (p := ⟨b, off + k * 12 + 6, none⟩) hb).trans x6)
      have c_x7 : ∀ p : BW wr, p.w.cell? ⟨b, off + k * 12 + 7, none⟩ = some (.int .i64 c1) := bw_cell ((B1.cell (p := ⟨b, off + k * 12 + 7, none⟩) hb).trans x7)
      have c_x8 : ∀ p : BW wr, p.w.cell? ⟨b, off + k * 12 + 8, none⟩ = some (.int .i64 c2) := bw_cell ((B1.cell (p := ⟨b, off + k * 12 + 8, none⟩) hb).trans x8)
      have c_x9 : ∀ p : BW wr, p.w.cell? ⟨b, off + k * 12 + 9, none⟩ = some (.int .i64 c3) := bw_cell ((B1.cell (p := ⟨b, off + k * 12 + 9, none⟩) hb).trans x9)
      have c_x10 : ∀ p : BW wr, p.w.cell? ⟨b, off + k * 12 + 10, none⟩ = some (.int .i64 r) := bw_cell ((B1.cell (p := ⟨b, off + k * 12 + 10, none⟩) hb).trans x10)
      have c_x11 : ∀ p : BW wr, p.w.cell? ⟨b, off + k * 12 + 11, none⟩ = some (.int .i64 m) := bw_cell ((B1.cell (p := ⟨b, off + k * 12 + 11, none⟩) hb).trans x11)
      obtain ⟨p1, hp1⟩ : ∃ p : BW wr, p.w = wr := ⟨BW.start wr, rfl⟩
      rw [← hp1]
      clear hp1
      go_upto_region 5 with (fail)
      have hmap := mapis_below hmap p1.h
      obtain ⟨W2, hW2⟩ : ∃ W, W = p1.w.alloc (.cells #[.int .i64 kk, .int .i64 a1, .int .i64 a2, .int .i64 a3, .int .i64 b1, .int .i64 b2, .int .i64 b3, .int .i64 c1, .int .i64 c2, .int .i64 c3, .int .i64 r, .int .i64 m] 45) := ⟨_, rfl⟩
      have B2 : Below w.heap.size w W2 := by rw [hW2]; exact (bw_below B1 p1).alloc (bw_below B1 p1).size _
      have o_p : w.heap.size ≤ p1.w.heap.size := (bw_below B1 p1).size
      have k_p := bkn hW2
      have hmap : MapIs W2 w.heap.size (6 * k) C0 := by rw [hW2]; exact mapis_grown hmap (World.grownBy_alloc _ _ none) (by simp)
      rw [← hW2]
      clear hW2
      clear B1
      clear c_x0 c_x1 c_x2 c_x3 c_x4 c_x5 c_x6 c_x7 c_x8 c_x9 c_x10 c_x11
      generalize p1.w.heap.size = g_p at *
      obtain ⟨c_p_0, c_p_1, c_p_2, c_p_3, c_p_4, c_p_5, c_p_6, c_p_7, c_p_8, c_p_9, c_p_10, c_p_11⟩ := bwc12 (k_p)
      obtain ⟨p2, hp2⟩ : ∃ p : BW W2, p.w = W2 := ⟨BW.start W2, rfl⟩
      rw [← hp2]
      clear hp2
      by_cases hkind : kk = 1
      · subst hkind
        have hones2 : Hid (∀ p ∈ l.take (k + 1), p.k = 1) := Lib.hid (by
          intro p hp
          rw [HTK.out] at hp
          rcases List.mem_append.1 hp with h | h
          · exact hones.out p h
          · rw [List.mem_singleton] at h; rw [h, HPQ.out])
        go_wp2_with (go_at_call 31; (with_reducible refine (bw_call KE.out _).mono ?_); rintro e w' ⟨rfl, q, rfl⟩)
        have hmap := mapis_below hmap q.h
        have BQ := bw_below B2 q
        clear c_p_0 c_p_1 c_p_2 c_p_3 c_p_4 c_p_5 c_p_6 c_p_7 c_p_8 c_p_9 c_p_10 c_p_11 x0 x1 x2 x3 x4 x5 x6 x7 x8 x9 x10 x11
        generalize q.w = wq at *
        rename World => wz
        go_loopw [22] (fun i wr => ∃ j : Nat, j ≤ 3 ∧ i = .int .i64 j ∧ MapIs wr w.heap.size (6 * k + 2 * j) (edgN pq C0 j) ∧ Below w.heap.size w wr) (fun i _ => 3 - (intOf i).toNat)
        case atStart => exact ⟨0, by omega, rfl, hmap, BQ⟩
        case round =>
          clear hmap BQ B2
          obtain ⟨j, hj, rfl, hmap, BJ⟩ := hrel
          by_cases hlj : j < 3
          · have hEI := edgAt_I HIK.out j
            have HNE := Lib.hid (edgN_next pq C0 j hlj)
            have hsm := HSM.out j (by omega)
            obtain ⟨ee, hee⟩ : ∃ ee, ee = edgAt pq j := ⟨_, rfl⟩
            rw [← hee] at hEI HNE
            obtain ⟨CC, hCC⟩ : ∃ CC, CC = edgN pq C0 j := ⟨_, rfl⟩
            rw [← hCC] at hmap HNE hsm
            clear hCC
            have hix : ∀ w, (Instr.index 66 (.agg #[.int .i64 a1, .int .i64 a2, .int .i64 a3, .int .i64 b1, .int .i64 b2, .int .i64 b3, .int .i64 b1, .int .i64 b2, .int .i64 b3, .int .i64 c1, .int .i64 c2, .int .i64 c3, .int .i64 c1, .int .i64 c2, .int .i64 c3, .int .i64 a1, .int .i64 a2, .int .i64 a3]) (.int .i64 (j : Int))).run Try.prog w = .ok (ev ee) w := fun w => by
              rw [hee, HEDH.out]
              obtain rfl | rfl | rfl : j = 0 ∨ j = 1 ∨ j = 2 := by omega
              all_goals kernel_rfl
            clear hee
            obtain ⟨⟨x1, x2, x3⟩, x4, x5, x6⟩ := ee
            have hev : ev ((x1, x2, x3), x4, x5, x6) = .agg #[.int .i64 x1, .int .i64 x2, .int .i64 x3, .int .i64 x4, .int .i64 x5, .int .i64 x6] := rfl
            have hrv : rv ((x1, x2, x3), x4, x5, x6) = ((x4, x5, x6), x1, x2, x3) := rfl
            have hev2 : ev ((x4, x5, x6), x1, x2, x3) = .agg #[.int .i64 x4, .int .i64 x5, .int .i64 x6, .int .i64 x1, .int .i64 x2, .int .i64 x3] := rfl
            rw [hrv] at HNE hEI
            rw [hev] at hix
            have HEV := Lib.hid hev
            have HEV2 := Lib.hid hev2
            clear hev hev2 hrv
            obtain ⟨E1, E2⟩ := hEI
            have B1 := BJ
            obtain ⟨p1, hp1⟩ : ∃ p : BW wr, p.w = wr := ⟨BW.start wr, rfl⟩
            have hmap1 : MapIs p1.w w.heap.size (6 * k + 2 * j) CC := by rw [hp1]; exact hmap
            have l_m : w.heap.size < p1.w.heap.size := mapis_lt hmap1
            rw [← hp1]
            clear hp1
            go_upto_region 10 with (fail)
            obtain ⟨W2, hW2⟩ : ∃ W, W = p1.w.alloc (.cells #[.int .i64 x1, .int .i64 x2, .int .i64 x3, .int .i64 x4, .int .i64 x5, .int .i64 x6] 65) := ⟨_, rfl⟩
            have B2 : Below w.heap.size w W2 := by rw [hW2]; exact (bw_below B1 p1).alloc (bw_below B1 p1).size _
            have o_e : w.heap.size ≤ p1.w.heap.size := (bw_below B1 p1).size
            have k_e := bkn hW2
            have hmap : MapIs W2 w.heap.size (6 * k + 2 * j) CC := by rw [hW2]; exact mapis_grown hmap1 (World.grownBy_alloc _ _ none) (by simp)
            clear hmap1
            rw [← hW2]
            clear hW2
            clear B1
            generalize p1.w.heap.size = g_e at *
            obtain ⟨c_e_0, c_e_1, c_e_2, c_e_3, c_e_4, c_e_5⟩ := bwc6 (k_e)
            obtain ⟨p2, hp2⟩ : ∃ p : BW W2, p.w = W2 := ⟨BW.start W2, rfl⟩
            rw [← hp2]
            clear hp2
            refine wp_region_front 2 (by kernel_rfl) (by kernel_rfl) (by kernel_rfl) ?_
            simp only [List.take_succ_cons, List.take_zero]
            repeat (go_big_quiet_step (fail))
            refine wpQuiet_nil ?_
            intro _ hw'
            obtain ⟨q, rfl⟩ := hw'
            have hmq := mapis_below hmap q.h
            obtain ⟨st, wm, m1, m2, m3, m4⟩ := mapis_count hmq (by unfold maxLen; omega) ((x1, x2, x3), x4, x5, x6) E1
            rw [HEV.out] at m1 m2 m3
            have hcs := hsm ((x1, x2, x3), x4, x5, x6)
            obtain ⟨w2, m5, hmap2, hg2⟩ := m4 (1) (by unfold I64; omega)
            obtain ⟨cv, hcv⟩ : ∃ cv, cv = CC ((x1, x2, x3), x4, x5, x6) := ⟨_, rfl⟩
            rw [← hcv] at m1 m2 m3 m5 hcs
            obtain ⟨cs_, hcs_⟩ : ∃ cs_, cs_ = cv + (1) := ⟨_, rfl⟩
            rw [← hcs_] at m5
            have hwrap : IntKind.i64.wrap (cv + 1) = cs_ := by rw [IntWalk.i64_in _ (by omega), hcs_]
            clear hcs_ hcv hcs m4
            refine wpAny_count (n := 2) (dL := 27) (dD := 28) (dE := 29) (dX := 30) (v0 := .int .i64 cv) (v1 := .int .i64 cs_) (tp := .tuple #[.int .i64 cv, goInt st]) (st := goInt st) (w1 := wm) (w2 := w2) (by kernel_rfl) rfl rfl rfl rfl rfl rfl rfl rfl rfl rfl rfl rfl rfl rfl rfl (by decide) (by decide) (by decide) (by decide) (by decide) (by decide) (by simp) (by simp) (by simp) (by simp) ?eL ?eD ?eE ?eX ?eS ?hQ
            case eL =>
              intro a ha
              have h1 := ha 25 (by decide) (by decide) (by decide) (by decide)
              have h2 := ha 26 (by decide) (by decide) (by decide) (by decide)
              simp only [Act.put, List.setIfInBounds_toArray, List.set_cons_zero, List.set_cons_succ, List.getElem?_toArray, List.getElem?_cons_succ, List.getElem?_cons_zero] at h1 h2
              exact ⟨by simp [execOp, Act.eval, h1, h2, m1, Result.andThen], by simp [execOp, Act.eval, h1, h2, m3, Result.andThen]⟩
            case eD =>
              intro a u ha
              simp [execOp, go_sem, Act.eval, ha, hwrap]
            case eE =>
              intro a ha
              have h1 := ha 25 (by decide) (by decide) (by decide) (by decide)
              have h2 := ha 26 (by decide) (by decide) (by decide) (by decide)
              simp only [Act.put, List.setIfInBounds_toArray, List.set_cons_zero, List.set_cons_succ, List.getElem?_toArray, List.getElem?_cons_succ, List.getElem?_cons_zero] at h1 h2
              simp [execOp, Act.eval, h1, h2, m2, Result.andThen]
            case eX =>
              intro a u ha
              simp [execOp, go_sem, Act.eval, ha]
            case eS =>
              intro a ha hx hv
              have h1 := ha 25 (by decide) (by decide) (by decide) (by decide)
              have h2 := ha 26 (by decide) (by decide) (by decide) (by decide)
              simp only [Act.put, List.setIfInBounds_toArray, List.set_cons_zero, List.set_cons_succ, List.getElem?_toArray, List.getElem?_cons_succ, List.getElem?_cons_zero] at h1 h2
              simp [execOp, Act.eval, h1, hx, hv, m5, Result.andThen]
            case hQ =>
              have k_e := (k_e.below q.h).grown hg2 (fun e => by cases e; omega)
              have B3 : Below w.heap.size w w2 := (bw_below B2 q).grown hg2 (bw_below B2 q).size (fun j e => by cases e; exact Nat.le_refl _)
              clear m1 m2 m3 m5 hwrap hg2 hmq hmap c_e_0 c_e_1 c_e_2 c_e_3 c_e_4 c_e_5 B2
              have hsm2 : ∀ y, -(3 * 1000000 + 4) ≤ bump CC ((x1, x2, x3), x4, x5, x6) 1 y ∧ bump CC ((x1, x2, x3), x4, x5, x6) 1 y ≤ 3 * 1000000 + 4 := fun y => by
                have h1 := bump_near CC ((x1, x2, x3), x4, x5, x6) y 1 (.inl rfl)
                have h2 := hsm y
                omega
              obtain ⟨C2, hC2⟩ : ∃ C2, C2 = bump CC ((x1, x2, x3), x4, x5, x6) 1 := ⟨_, rfl⟩
              rw [← hC2] at hmap2 HNE hsm2
              clear hC2 hsm
              have hmap := hmap2
              clear hmap2
              simp only [Act.put, List.setIfInBounds_toArray, List.set_cons_zero, List.set_cons_succ]
              go_upto_region 11 with (fail)
              obtain ⟨c_e_0, c_e_1, c_e_2, c_e_3, c_e_4, c_e_5⟩ := bwc6 (k_e)
              obtain ⟨p3, hp3⟩ : ∃ p : BW w2, p.w = w2 := ⟨BW.start w2, rfl⟩
              rw [← hp3]
              clear hp3
              refine wp_region_front 6 (by kernel_rfl) (by kernel_rfl) (by kernel_rfl) ?_
              simp only [List.take_succ_cons, List.take_zero]
              repeat (go_big_quiet_step (fail))
              refine wpQuiet_nil ?_
              intro _ hw'
              obtain ⟨q, rfl⟩ := hw'
              have hmq := mapis_below hmap q.h
              obtain ⟨st, wm, m1, m2, m3, m4⟩ := mapis_count hmq (by unfold maxLen; omega) ((x4, x5, x6), x1, x2, x3) E2
              rw [HEV2.out] at m1 m2 m3
              have hcs := hsm2 ((x4, x5, x6), x1, x2, x3)
              obtain ⟨w2', m5, hmap2, hg2⟩ := m4 (-1) (by unfold I64; omega)
              obtain ⟨cv, hcv⟩ : ∃ cv, cv = C2 ((x4, x5, x6), x1, x2, x3) := ⟨_, rfl⟩
              rw [← hcv] at m1 m2 m3 m5 hcs
              obtain ⟨cs_, hcs_⟩ : ∃ cs_, cs_ = cv + (-1) := ⟨_, rfl⟩
              rw [← hcs_] at m5
              have hwrap : IntKind.i64.wrap (cv - 1) = cs_ := by rw [IntWalk.i64_in _ (by omega), hcs_]; omega
              clear hcs_ hcv hcs m4
              refine wpAny_count (n := 6) (dL := 37) (dD := 38) (dE := 39) (dX := 40) (v0 := .int .i64 cv) (v1 := .int .i64 cs_) (tp := .tuple #[.int .i64 cv, goInt st]) (st := goInt st) (w1 := wm) (w2 := w2') (by kernel_rfl) rfl rfl rfl rfl rfl rfl rfl rfl rfl rfl rfl rfl rfl rfl rfl (by decide) (by decide) (by decide) (by decide) (by decide) (by decide) (by simp) (by simp) (by simp) (by simp) ?eL ?eD ?eE ?eX ?eS ?hQ
              case eL =>
                intro a ha
                have h1 := ha 31 (by decide) (by decide) (by decide) (by decide)
                have h2 := ha 36 (by decide) (by decide) (by decide) (by decide)
                simp only [Act.put, List.setIfInBounds_toArray, List.set_cons_zero, List.set_cons_succ, List.getElem?_toArray, List.getElem?_cons_succ, List.getElem?_cons_zero] at h1 h2
                exact ⟨by simp [execOp, Act.eval, h1, h2, m1, Result.andThen], by simp [execOp, Act.eval, h1, h2, m3, Result.andThen]⟩
              case eD =>
                intro a u ha
                simp [execOp, go_sem, Act.eval, ha, hwrap]
              case eE =>
                intro a ha
                have h1 := ha 31 (by decide) (by decide) (by decide) (by decide)
                have h2 := ha 36 (by decide) (by decide) (by decide) (by decide)
                simp only [Act.put, List.setIfInBounds_toArray, List.set_cons_zero, List.set_cons_succ, List.getElem?_toArray, List.getElem?_cons_succ, List.getElem?_cons_zero] at h1 h2
                simp [execOp, Act.eval, h1, h2, m2, Result.andThen]
              case eX =>
                intro a u ha
                simp [execOp, go_sem, Act.eval, ha]
              case eS =>
                intro a ha hx hv
                have h1 := ha 31 (by decide) (by decide) (by decide) (by decide)
                have h2 := ha 36 (by decide) (by decide) (by decide) (by decide)
                simp only [Act.put, List.setIfInBounds_toArray, List.set_cons_zero, List.set_cons_succ, List.getElem?_toArray, List.getElem?_cons_succ, List.getElem?_cons_zero] at h1 h2
                simp [execOp, Act.eval, h1, hx, hv, m5, Result.andThen]
              case hQ =>
                have B4 : Below w.heap.size w w2' := (bw_below B3 q).grown hg2 (bw_below B3 q).size (fun j e => by cases e; exact Nat.le_refl _)
                clear m1 m2 m3 m5 hwrap hg2 hmq hmap c_e_0 c_e_1 c_e_2 c_e_3 c_e_4 c_e_5 B3 k_e hsm2
                simp only [Act.put, List.setIfInBounds_toArray, List.set_cons_zero, List.set_cons_succ]
                go_wp2
                go_roundw
                case rel => exact ⟨j + 1, by omega, by go_num, mapis_mono (by rw [HNE.out]; exact hmap2) (by omega), B4⟩
                case measure => simp [intOf]; omega
          · have hje : j = 3 := by omega
            have hmap2 : MapIs wr w.heap.size (6 * (k + 1)) (net (l.take (k + 1))) := by
              rw [HNX.out]
              rw [hje] at hmap
              exact mapis_mono hmap (by omega)
            clear hmap hje
            go_wp2
            go_roundw
            case rel => exact ⟨k + 1, by omega, by go_num, hmap2, BJ, hones2⟩
            case measure => simp [intOf]; omega
      · have t3 : (kk == 1) = false := by rw [beq_eq_false_iff_ne]; exact hkind
        have HR := Lib.hid (closed_kind HMEM.out (by rw [HPQ.out]; exact hkind))
        go_wp2
        go_ret
        exact ⟨by rw [HR.out]; rfl, bw_below B2 _⟩
    · have hke : k = n := by omega
      rw [hke, HNN.out, List.take_length] at hmap hones
      clear hke
      have hall := closed_net hones.out
      obtain ⟨D, hown, hD, hkeys⟩ := hmap
      have hIs : Go.Maps.IsMap D := by
        obtain ⟨es', clock', _, _, _, e'⟩ := id hown
        exact ⟨_, e'⟩
      have K := Go.Maps.Keyed.of_law edge_law
      have hlast : (∀ kl, Go.Maps.has D kl = true → D.atKey kl (.lit (.int .i64 0)) = .lit (.int .i64 0)) → mClosed l = true := fun hz => hall.2 fun y => by
        by_cases hy : IE y
        · obtain ⟨kl, hk⟩ := edge_key y hy
          have h1 := hD y kl hk
          cases hh : Go.Maps.has D kl with
          | false => rw [Go.Maps.atKey_of_not_has hh] at h1; simp only [DataW.lit.injEq, Lit.int.injEq, true_and] at h1; exact h1.symm
          | true => rw [hz kl hh] at h1; simp only [DataW.lit.injEq, Lit.int.injEq, true_and] at h1; exact h1.symm
        · exact net_IE HI.out hy
      have hone : ∀ kl c, Go.Maps.has D kl = true → D.atKey kl (.lit (.int .i64 0)) = .lit (.int .i64 c) → c ≠ 0 → mClosed l = false := fun kl c hh hc h0 => by
        obtain ⟨e, hk⟩ := hkeys kl hh
        have h1 := hD e kl hk
        rw [hc] at h1
        rw [Bool.eq_false_iff]
        intro hm
        have h2 := hall.1 hm e
        rw [h2] at h1
        simp only [DataW.lit.injEq, Lit.int.injEq, true_and] at h1
        exact h0 h1
      have HLAST := Lib.hid hlast
      have HONE := Lib.hid hone
      have HKEYS := Lib.hid hkeys
      clear hall hD hlast hone hkeys
      have hbs : w.heap.size < wr.heap.size := hown.lt
      go_wp2_with (at_range; refine wpList_range_own _ rfl _ 63 rfl 65 3 K Try.underlying63 _ w.heap.size _ D rfl hown ?_; intro w0 hrg0 hg0 hs0)
      go_frame
      have hb0 : Below w.heap.size w w0 := BO.grown hg0 (by omega) (fun j e => by cases e)
      obtain ⟨it, hit⟩ : ∃ it, it = wr.heap.size := ⟨_, rfl⟩
      rw [← hit] at hrg0 ⊢
      have hitl : w.heap.size < it := by omega
      clear hit hg0 hs0 hown hbs
      go_loopw [9] (fun _ wr => ∃ (left : Lit → Bool) (cnt : Nat), wr.ranges Try.prog 65 (plainElem Try.prog 3) w.heap.size it (6 * l.length) D left cnt ∧ Hid (∀ kl, Go.Maps.has D kl = true → left kl = false → D.atKey kl (.lit (.int .i64 0)) = .lit (.int .i64 0)) ∧ Below w.heap.size w wr) (fun _ wr => wr.rangeLeft w.heap.size it)
      case atStart => exact ⟨_, _, hrg0, Lib.hid (fun kl h1 h2 => by rw [h1] at h2; cases h2), hb0⟩
      case round =>
        clear hrg0 hb0 BO
        obtain ⟨left, cnt, hrg, hzero, BO⟩ := hrel
        go_wp2_with (at_next; refine wpList_next_ranges _ rfl _ rfl 65 K (plainElem Try.prog 3) (fun x : Value => x) (Value.int .i64) (fun key kl _ => ⟨key, rfl⟩) (fun v y h => by obtain ⟨a, rfl, _⟩ := plainElem_int_inv Try.underlying3 h; exact ⟨a, rfl⟩) w.heap.size it _ D left cnt rfl hrg ?_ ?_)
        · intro hc0 hl0
          have HR := Lib.hid (HLAST.out (fun kl h => hzero.out kl h (hl0 kl)))
          go_wp2
          go_ret
          exact ⟨by rw [HR.out]; rfl, BO⟩
        · intro x c kl y ps w' cnt' hkx hlk hRv hat hrg1 hlt1 hg1 hs1 hen
          have hy : y = .lit (.int .i64 c) := by obtain ⟨a, ea, ey, _⟩ := plainElem_int_inv Try.underlying3 hRv; cases ea; exact congrArg Prod.fst ey
          have hat0 := hat (.lit (.int .i64 0))
          have hhas := Go.Maps.has_true_of_atKey hat
          rw [hy] at hat0
          have hb1 : Below w.heap.size w w' := BO.grown hg1 BO.size (fun j e => by cases e; omega)
          by_cases hc : c = 0
          · have hz1 : Hid (∀ kl', Go.Maps.has D kl' = true → (left kl' && !kl'.sameKey kl) = false → D.atKey kl' (.lit (.int .i64 0)) = .lit (.int .i64 0)) := Lib.hid (fun kl' h1 h2 => by
              cases hl : left kl' with
              | false => exact hzero.out kl' h1 hl
              | true =>
                rw [hl] at h2
                have h3 : kl'.sameKey kl = true := by cases hs : kl'.sameKey kl with | true => rfl | false => rw [hs] at h2; cases h2
                rw [WideAt.sameKey_eq h3, hat0, hc])
            have hmeas : w'.rangeLeft w.heap.size it < wr.rangeLeft w.heap.size it := by rw [hrg1.left_eq, hrg.left_eq]; exact hlt1
            subst hc
            clear hat hat0 hhas hy hRv hkx hlk hzero hrg
            go_wp2
            go_roundw
            case rel => exact ⟨_, _, hrg1, hz1, hb1⟩
            case measure => exact hmeas
          · have HR := Lib.hid (HONE.out kl c hhas hat0 hc)
            have t3 : (c == 0) = false := by rw [beq_eq_false_iff_ne]; exact hc
            clear hat hat0 hhas hy hRv hkx hlk hzero hrg
            go_wp2
            go_ret
            exact ⟨by rw [HR.out]; rfl, hb1⟩

end
end Go.Proofs.Ytneacfhoinaeeaa
