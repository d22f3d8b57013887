/- FnExactEdgeFits: for every graph, number and element that can be read, impl.EdgeFits answers as spec.EdgeFits, and the graph and the element read as they did, so the law returns true. No condition but the library's variables, which the card ties to the program's text. -/
import Derived.Test.YthpclghhlodnhaaDoorCards
import Derived.Test.YthpclghhlodnhaaDoorTie
import Derived.Test.YthpclghhlodnhaaDoorLExactEdgeFits
import Derived.Test.YthpclghhlodnhaaDoorOpenG
import Derived.Test.YthpclghhlodnhaaDoorOpenEl
import Derived.Test.YthpclghhlodnhaaDoorDoorVars
import Derived.SevenTiedAt
namespace Go.Proofs.YthpclghhlodnhaaDoor
open Go.ChangeShapes Go.WideShapes Go.ChangeAt Go.RowKit
open Go.ChangeMaps (open_string shut_string)

theorem fnExactEdgeFits_vars {W : World} (hh : laidMetH Tryd.prog Rows.fnExactEdgeFitsRow.laid W) : Vars W := by
  have h : laidMet Tryd.prog Rows.fnExactEdgeFitsRow.laid W := by rw [MakeChecks.laidMetH_plain _ _ _ (by kernel_rfl)] at hh; exact hh
  refine ⟨?_, ?_, ?_⟩
  · (first | exact laid_iface gES tES Tryd.underlying92 h | exact laid_iface gES tES Tryd.underlying92 h.tail | exact laid_iface gES tES Tryd.underlying92 h.tail.tail | exact laid_iface gES tES Tryd.underlying92 h.tail.tail.tail | exact laid_iface gES tES Tryd.underlying92 h.tail.tail.tail.tail | exact laid_iface gES tES Tryd.underlying92 h.tail.tail.tail.tail.tail | fail "laid")
  · (first | exact laid_iface gER tER Tryd.underlying92 h | exact laid_iface gER tER Tryd.underlying92 h.tail | exact laid_iface gER tER Tryd.underlying92 h.tail.tail | exact laid_iface gER tER Tryd.underlying92 h.tail.tail.tail | exact laid_iface gER tER Tryd.underlying92 h.tail.tail.tail.tail | exact laid_iface gER tER Tryd.underlying92 h.tail.tail.tail.tail.tail | fail "laid")
  · (first | exact Lib.tabIs_of_head gPT tPT Tryd.underlying153 Tryd.underlying141 (by kernel_rfl) (by kernel_rfl) h | exact Lib.tabIs_of_head gPT tPT Tryd.underlying153 Tryd.underlying141 (by kernel_rfl) (by kernel_rfl) h.tail | exact Lib.tabIs_of_head gPT tPT Tryd.underlying153 Tryd.underlying141 (by kernel_rfl) (by kernel_rfl) h.tail.tail | exact Lib.tabIs_of_head gPT tPT Tryd.underlying153 Tryd.underlying141 (by kernel_rfl) (by kernel_rfl) h.tail.tail.tail | exact Lib.tabIs_of_head gPT tPT Tryd.underlying153 Tryd.underlying141 (by kernel_rfl) (by kernel_rfl) h.tail.tail.tail.tail | exact Lib.tabIs_of_head gPT tPT Tryd.underlying153 Tryd.underlying141 (by kernel_rfl) (by kernel_rfl) h.tail.tail.tail.tail.tail | fail "laid")
theorem fnExactEdgeFits_met (os : Os) (args : Array Value) : laidMetH Tryd.prog Rows.fnExactEdgeFitsRow.laid ((World.doorLaid Tryd.prog 400 os).forCall (fun _ _ => 0) ⟨#[], args, []⟩).memory :=
  laidMetH_of_parts3 (fuel := 8) (laidMet_of_run' 8 (by kernel_rfl) (by kernel_rfl)) (by kernel_rfl) (by kernel_rfl)

set_option maxRecDepth 100000 in
theorem fnExactEdgeFits_lifted (os : Os) (started : os.Started) (H : Type) (enc : TypeId × Value → H) :
    ReturnsInHanded {} Tryd.checked os 3 .any (fun w args => (Rows.fnExactEdgeFitsSpec.pre enc Tryd.prog Tryd.f3 [] false w args ∧ laidMetH Tryd.prog Rows.fnExactEdgeFitsRow.laid w) ∧ sizedMet enc Tryd.prog Tryd.f3 (OpenSpec.ofChange Rows.fnExactEdgeFitsSpec) false w args)
      (Rows.fnExactEdgeFitsSpec.post enc Tryd.prog Tryd.f3 false true false false) := by
  refine returnsInHanded_of_change_and (C := Tryd.checked) (X := fun w _ => laidMetH Tryd.prog Rows.fnExactEdgeFitsRow.laid w) (fun _ _ _ hh h => h.of_heap hh) Tryd.own started (by kernel_rfl) Tryd.func3
    (ChangeSpec.witness_shaped (enc := enc) (C := Tryd.checked) (os := os) (X := fun w _ => laidMetH Tryd.prog Rows.fnExactEdgeFitsRow.laid w) false (World.doorLaid Tryd.prog 400 os) #[.agg #[.slice none 0 0, .slice none 0 0], .int .i64 0, .agg #[.bool false, .string ⟨#[]⟩, .int .i64 0, .string ⟨#[]⟩, .slice none 0 0, .int .i64 0, .string ⟨#[]⟩, .slice none 0 0, .int .i64 0]] 8 rfl (World.shaped_of_RefB (by kernel_rfl) (by kernel_rfl)) (by kernel_rfl) (by kernel_rfl) (by kernel_rfl) (fnExactEdgeFits_met os _)) ?_
  intro W base args ds gs before hval0 hW _ _ hL _
  have hval : ∀ (j : Nat) t v, Tryd.f3.params[j]? = some t → args[j]? = some v → Value.okWide Tryd.prog W .any base t v := hval0
  have hW' := hW
  obtain ⟨p, q, hA0, hV, rfl, hfz, hnd⟩ := hW
  have hA : DataW.TrodAll enc Tryd.prog W 0 (fun _ => true) true Tryd.f3.params.toList args.toList ds p := hA0
  rw [Tryd.params3] at hA hval
  obtain ⟨v0, v1, v2, d0, d1, d2, p0, p1, p2, rfl, rfl, rfl, h0, h1, h2⟩ := trodAll_three hA
  obtain ⟨rfl, rfl⟩ := trodVars_none hV
  obtain ⟨g0, hg0, hok0⟩ := open_graph (hval 0 25 v0 rfl rfl) h0
  obtain ⟨n1, rfl, _, _, wn1⟩ := open_int Tryd.underlying3 (hval 1 3 v1 rfl rfl) h1
  obtain ⟨e2, he2, hok2⟩ := open_elem (hval 2 30 v2 rfl rfl) h2
  have hvars := fnExactEdgeFits_vars hL
  clear hA0 hval0
  simp only [List.append_nil] at hW'
  refine (lawExactEdgeFits g0 e2 v0 v2 n1 W hg0 he2 hok0 hok2 hvars).mono fun e W' ⟨he, hw⟩ => ?_
  subst he
  exact ⟨_, rfl, _, _, _, [], _, [], hW', trodAll_mk1 (shut_bool Tryd.underlying4 _), trodAll_mk3 (Below.trod Tryd.laidOut (by kernel_rfl) (of_decide_eq_true (by kernel_rfl)) h0 hw (fun x hx => hW'.lt x (by simp [hx]))) (Below.trod Tryd.laidOut (by kernel_rfl) (of_decide_eq_true (by kernel_rfl)) h1 hw (fun x hx => hW'.lt x (by simp [hx]))) (Below.trod Tryd.laidOut (by kernel_rfl) (of_decide_eq_true (by kernel_rfl)) h2 hw (fun x hx => hW'.lt x (by simp [hx]))), rfl, hw.frame _, fun h => by cases h⟩

theorem fnExactEdgeFits_said : Rows.FnExactEdgeFitsSaid :=
  OpenClaim.holds_of_wide 3 Tryd.f3 rfl rfl rfl rfl rfl rfl rfl ⟨rfl, rfl, rfl, rfl, rfl⟩ rfl rfl rfl rfl rfl (by kernel_rfl) Tryd.func3 (by kernel_rfl)
    (of_decide_eq_true (by kernel_rfl)) (by unfold Func.isWrapper; first | (rw [if_pos (by decide +kernel)]; kernel_rfl) | (rw [if_neg (by decide +kernel)]; exact ⟨rfl, rfl⟩))
    (fun os started H enc _ => fnExactEdgeFits_lifted os started H enc)

theorem fnExactEdgeFits_holds : Rows.FnExactEdgeFitsCardSaid :=
  Claim7.holds_tied_plain_at .later [] _ true _ true
    fnExactEdgeFits_said (fun _ h => by cases h) (by kernel_rfl) (fun _ h => by cases h) fnExactEdgeFits_row_tie rfl ⟨rfl, rfl⟩ (by kernel_rfl) rfl
    (fun f fn hf hfn => by
      obtain rfl : f = 3 := Option.some.inj ((show Tryd.prog.funcNamed "loop.example/graphpatterns/laws.FnExactEdgeFits" = some 3 by kernel_rfl).symm.trans hf) |>.symm
      obtain rfl : fn = Tryd.f3 := (Option.some.inj (Tryd.func3.symm.trans hfn)).symm
      exact ⟨by kernel_rfl, fun j t ht => by
        rw [Tryd.params3] at ht
        have hm : t ∈ [25, 3, 30] := by simpa using Array.mem_of_getElem? ht
        have hall : ([25, 3, 30].all fun u => !Tryd.prog.wantsStandIn u) = true := by kernel_rfl
        exact (show Tryd.prog.wantsStandIn t = false by simpa using List.all_eq_true.1 hall t hm)⟩)
    (by kernel_rfl)
end Go.Proofs.YthpclghhlodnhaaDoor
