/- FnExactLabelHolds: for every expression and every text that can be read, impl.LabelHolds answers as spec.LabelHolds, and the expression reads as it did, so the law returns true. No condition but the library's variables, which the card ties to the program's text. -/
import Derived.Test.YtbkndmjdjgccbaaDoorCards
import Derived.Test.YtbkndmjdjgccbaaDoorTie
import Derived.Test.YtbkndmjdjgccbaaDoorLExactLabelHolds
import Derived.Test.YtbkndmjdjgccbaaDoorOpenE
import Derived.Test.YtbkndmjdjgccbaaDoorDoorVars
import Derived.SevenTiedAt
namespace Go.Proofs.YtbkndmjdjgccbaaDoor
open Go.ChangeShapes Go.WideShapes Go.ChangeAt Go.RowKit
open Go.ChangeMaps (open_string shut_string)

theorem fnExactLabelHolds_vars {W : World} (hh : laidMetH Tryd.prog Rows.fnExactLabelHoldsRow.laid W) : Vars W := by
  have h : laidMet Tryd.prog Rows.fnExactLabelHoldsRow.laid W := by rw [MakeChecks.laidMetH_plain _ _ _ (by kernel_rfl)] at hh; exact hh
  refine ⟨?_, ?_, ?_⟩
  · (first | exact laid_iface gES tES Tryd.underlying84 h | exact laid_iface gES tES Tryd.underlying84 h.tail | exact laid_iface gES tES Tryd.underlying84 h.tail.tail | exact laid_iface gES tES Tryd.underlying84 h.tail.tail.tail | exact laid_iface gES tES Tryd.underlying84 h.tail.tail.tail.tail | fail "laid")
  · (first | exact laid_iface gER tER Tryd.underlying84 h | exact laid_iface gER tER Tryd.underlying84 h.tail | exact laid_iface gER tER Tryd.underlying84 h.tail.tail | exact laid_iface gER tER Tryd.underlying84 h.tail.tail.tail | exact laid_iface gER tER Tryd.underlying84 h.tail.tail.tail.tail | fail "laid")
  · (first | exact Lib.tabIs_of_head gPT tPT Tryd.underlying114 Tryd.underlying95 (by kernel_rfl) (by kernel_rfl) h | exact Lib.tabIs_of_head gPT tPT Tryd.underlying114 Tryd.underlying95 (by kernel_rfl) (by kernel_rfl) h.tail | exact Lib.tabIs_of_head gPT tPT Tryd.underlying114 Tryd.underlying95 (by kernel_rfl) (by kernel_rfl) h.tail.tail | exact Lib.tabIs_of_head gPT tPT Tryd.underlying114 Tryd.underlying95 (by kernel_rfl) (by kernel_rfl) h.tail.tail.tail | exact Lib.tabIs_of_head gPT tPT Tryd.underlying114 Tryd.underlying95 (by kernel_rfl) (by kernel_rfl) h.tail.tail.tail.tail | fail "laid")
theorem fnExactLabelHolds_met (os : Os) (args : Array Value) : laidMetH Tryd.prog Rows.fnExactLabelHoldsRow.laid ((World.doorLaid Tryd.prog 400 os).forCall (fun _ _ => 0) ⟨#[], args, []⟩).memory :=
  laidMetH_of_parts3 (fuel := 8) (laidMet_of_run' 8 (by kernel_rfl) (by kernel_rfl)) (by kernel_rfl) (by kernel_rfl)

set_option maxRecDepth 100000 in
theorem fnExactLabelHolds_lifted (os : Os) (started : os.Started) (H : Type) (enc : TypeId × Value → H) :
    ReturnsInHanded {} Tryd.checked os 9 .any (fun w args => (Rows.fnExactLabelHoldsSpec.pre enc Tryd.prog Tryd.f9 [] false w args ∧ laidMetH Tryd.prog Rows.fnExactLabelHoldsRow.laid w) ∧ sizedMet enc Tryd.prog Tryd.f9 (OpenSpec.ofChange Rows.fnExactLabelHoldsSpec) false w args)
      (Rows.fnExactLabelHoldsSpec.post enc Tryd.prog Tryd.f9 false true false false) := by
  refine returnsInHanded_of_change_and (C := Tryd.checked) (X := fun w _ => laidMetH Tryd.prog Rows.fnExactLabelHoldsRow.laid w) (fun _ _ _ hh h => h.of_heap hh) Tryd.own started (by kernel_rfl) Tryd.func9
    (ChangeSpec.witness_shaped (enc := enc) (C := Tryd.checked) (os := os) (X := fun w _ => laidMetH Tryd.prog Rows.fnExactLabelHoldsRow.laid w) false (World.doorLaid Tryd.prog 400 os) #[.agg #[.int .i64 0, .string ⟨#[]⟩, .slice none 0 0], .string ⟨#[]⟩] 8 rfl (World.shaped_of_RefB (by kernel_rfl) (by kernel_rfl)) (by kernel_rfl) (by kernel_rfl) (by kernel_rfl) (fnExactLabelHolds_met os _)) ?_
  intro W base args ds gs before hval0 hW _ _ hL _
  have hval : ∀ (j : Nat) t v, Tryd.f9.params[j]? = some t → args[j]? = some v → Value.okWide Tryd.prog W .any base t v := hval0
  have hW' := hW
  obtain ⟨p, q, hA0, hV, rfl, hfz, hnd⟩ := hW
  have hA : DataW.TrodAll enc Tryd.prog W 0 (fun _ => true) true Tryd.f9.params.toList args.toList ds p := hA0
  rw [Tryd.params9] at hA hval
  obtain ⟨v0, v1, d0, d1, p0, p1, rfl, rfl, rfl, h0, h1⟩ := trodAll_two hA
  obtain ⟨rfl, rfl⟩ := trodVars_none hV
  obtain ⟨e0, he0, hok0, hkok0⟩ := open_expr (hval 0 39 v0 rfl rfl) h0
  obtain ⟨s1, rfl, _, _, ws1⟩ := open_string Tryd.underlying9 (hval 1 9 v1 rfl rfl) h1
  have hvars := fnExactLabelHolds_vars hL
  clear hA0 hval0
  simp only [List.append_nil] at hW'
  refine (lawExactLabelHolds e0 v0 s1 (by exact ws1) W he0 hok0 hkok0 hvars).mono fun e W' ⟨he, hw⟩ => ?_
  subst he
  exact ⟨_, rfl, _, _, _, [], _, [], hW', trodAll_mk1 (shut_bool Tryd.underlying4 _), trodAll_mk2 (Below.trod Tryd.laidOut (by kernel_rfl) (of_decide_eq_true (by kernel_rfl)) h0 hw (fun x hx => hW'.lt x (by simp [hx]))) (Below.trod Tryd.laidOut (by kernel_rfl) (of_decide_eq_true (by kernel_rfl)) h1 hw (fun x hx => hW'.lt x (by simp [hx]))), rfl, hw.frame _, fun h => by cases h⟩

theorem fnExactLabelHolds_said : Rows.FnExactLabelHoldsSaid :=
  OpenClaim.holds_of_wide 9 Tryd.f9 rfl rfl rfl rfl rfl rfl rfl ⟨rfl, rfl, rfl, rfl, rfl⟩ rfl rfl rfl rfl rfl (by kernel_rfl) Tryd.func9 (by kernel_rfl)
    (of_decide_eq_true (by kernel_rfl)) (by unfold Func.isWrapper; first | (rw [if_pos (by decide +kernel)]; kernel_rfl) | (rw [if_neg (by decide +kernel)]; exact ⟨rfl, rfl⟩))
    (fun os started H enc _ => fnExactLabelHolds_lifted os started H enc)

theorem fnExactLabelHolds_holds : Rows.FnExactLabelHoldsCardSaid :=
  Claim7.holds_tied_plain_at .later [] _ true _ true
    fnExactLabelHolds_said (fun _ h => by cases h) (by kernel_rfl) (fun _ h => by cases h) fnExactLabelHolds_row_tie rfl ⟨rfl, rfl⟩ (by kernel_rfl) rfl
    (fun f fn hf hfn => by
      obtain rfl : f = 9 := Option.some.inj ((show Tryd.prog.funcNamed "loop.example/graphpatterns/laws.FnExactLabelHolds" = some 9 by kernel_rfl).symm.trans hf) |>.symm
      obtain rfl : fn = Tryd.f9 := (Option.some.inj (Tryd.func9.symm.trans hfn)).symm
      exact ⟨by kernel_rfl, fun j t ht => by
        rw [Tryd.params9] at ht
        have hm : t ∈ [39, 9] := by simpa using Array.mem_of_getElem? ht
        have hall : ([39, 9].all fun u => !Tryd.prog.wantsStandIn u) = true := by kernel_rfl
        exact (show Tryd.prog.wantsStandIn t = false by simpa using List.all_eq_true.1 hall t hm)⟩)
    (by kernel_rfl)
end Go.Proofs.YtbkndmjdjgccbaaDoor
