/- Plain mathematics of layer 14: hits, and the first of them. Imports no -/
import Derived.Test.YtbmpmjdlaahekaaGreatWs48
set_option maxRecDepth 100000
set_option maxHeartbeats 8000000
set_option linter.unusedVariables false
set_option linter.unusedSimpArgs false
open Go.Proofs.Tryz
namespace Go.Proofs.YtbmpmjdlaahekaaGreat
section
open Go.RowKit Go.Proofs.Sky
theorem ref17_May_true (o1 o2 o3 d1 d2 d3 fr : Int) (w : World) (hp : plc (o1, o2, o3) = true) :
  Rt prog 7 #[.agg #[o1, o2, o3, d1, d2, d3, fr]] w (.bool (plc (o1, o2, o3) && nrT (d1, d2, d3))) := by
 have KP := zh (fun w => z0v o1 o2 o3 w)
 have KN := zh (fun w => z0b d1 d2 d3 w)
 have hn : nrT (d1, d2, d3) = vnear d1 d2 d3 := rfl
 rw [hn]
 rw [hp] at KP ⊢
 generalize vnear d1 d2 d3 = vn at *
 clear hp hn
 go_enter func7, ntmps7
 go_upto_region 1 with (fail)
 refine wst1 fun W1 ky B1 => ?_
 have cy := bwc7 ky
 refine bws fun p1 => ?_
 go_wp2_with (first
  | (go_at_call 19; (with_reducible refine (z02 KP.out _).mono ?_); rintro e w' ⟨rfl, q, rfl⟩)
  | (go_at_call 20; (with_reducible refine (z02 KN.out _).mono ?_); rintro e w' ⟨rfl, q, rfl⟩))
 go_ret
 exact ⟨rfl, z00 B1 _⟩
theorem ref17_May_false (o1 o2 o3 d1 d2 d3 fr : Int) (w : World) (hp : plc (o1, o2, o3) = false) :
  Rt prog 7 #[.agg #[o1, o2, o3, d1, d2, d3, fr]] w (.bool (plc (o1, o2, o3) && nrT (d1, d2, d3))) := by
 have KP := zh (fun w => z0v o1 o2 o3 w)
 have KN := zh (fun w => z0b d1 d2 d3 w)
 have hn : nrT (d1, d2, d3) = vnear d1 d2 d3 := rfl
 rw [hn]
 rw [hp] at KP ⊢
 generalize vnear d1 d2 d3 = vn at *
 clear hp hn
 go_enter func7, ntmps7
 go_upto_region 1 with (fail)
 refine wst1 fun W1 ky B1 => ?_
 have cy := bwc7 ky
 refine bws fun p1 => ?_
 go_wp2_with (first
  | (go_at_call 19; (with_reducible refine (z02 KP.out _).mono ?_); rintro e w' ⟨rfl, q, rfl⟩)
  | (go_at_call 20; (with_reducible refine (z02 KN.out _).mono ?_); rintro e w' ⟨rfl, q, rfl⟩))
 go_ret
 exact ⟨rfl, z00 B1 _⟩
theorem ref17_May (o1 o2 o3 d1 d2 d3 fr : Int) (w : World) :
  Rt prog 7 #[.agg #[o1, o2, o3, d1, d2, d3, fr]] w (.bool (plc (o1, o2, o3) && nrT (d1, d2, d3))) := by
 cases h : plc (o1, o2, o3) with
 | true => rw [← h]; exact ref17_May_true o1 o2 o3 d1 d2 d3 fr w h
 | false => rw [← h]; exact ref17_May_false o1 o2 o3 d1 d2 d3 fr w h
end
end Go.Proofs.YtbmpmjdlaahekaaGreat
