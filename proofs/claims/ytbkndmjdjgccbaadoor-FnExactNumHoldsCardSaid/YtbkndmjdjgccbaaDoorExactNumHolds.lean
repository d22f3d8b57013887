/- FnExactNumHolds: for every expression and every number that can be read, impl.NumHolds answers as spec.NumHolds, and the expression reads as it did, so the law returns true. No condition but the library's variables, which the card ties to the program's text. -/
import Derived.Test.YtbkndmjdjgccbaaDoorCards
import Derived.Test.YtbkndmjdjgccbaaDoorTie
import Derived.Test.YtbkndmjdjgccbaaDoorLExactNumHolds
import Derived.Test.YtbkndmjdjgccbaaDoorOpenE
import Derived.Test.YtbkndmjdjgccbaaDoorDoorVars
import Derived.SevenTiedAt
namespace Go.Proofs.YtbkndmjdjgccbaaDoor
open Go.ChangeShapes Go.WideShapes Go.ChangeAt Go.RowKit
open Go.ChangeMaps (open_string shut_string)

theorem fnExactNumHolds_vars {W : World} (hh : laidMetH Tryd.prog Rows.fnExactNumHoldsRow.laid W) : Vars W := by
  have h : laidMet Tryd.prog Rows.fnExactNumHoldsRow.laid W := by rw [MakeChecks.laidMetH_plain _ _ _ (by kernel_rfl)] at hh; exact hh
  refine ⟨?_, ?_, ?_⟩
  · (first | exact laid_iface gES tES Tryd.underlying84 h | exact laid_iface gES tES Tryd.underlying84 h.tail | exact laid_iface gES tES Tryd.underlying84 h.tail.tail | exact laid_iface gES tES Tryd.underlying84 h.tail.tail.tail | exact laid_iface gES tES Tryd.underlying84 h.tail.tail.tail.tail | fail "laid")
  · (first | exact laid_iface gER tER Tryd.underlying84 h | exact laid_iface gER tER Tryd.underlying84 h.tail | exact laid_iface gER tER Tryd.underlying84 h.tail.tail | exact laid_iface gER tER Tryd.underlying84 h.tail.tail.tail | exact laid_iface gER tER Tryd.underlying84 h.tail.tail.tail.tail | fail "laid")
  · (first | exact Lib.tabIs_of_head gPT tPT Tryd.underlying114 Tryd.underlying95 (by kernel_rfl) (by kernel_rfl) h | exact Lib.tabIs_of_head gPT tPT Tryd.underlying114 Tryd.underlying95 (by kernel_rfl) (by kernel_rfl) h.tail | exact Lib.tabIs_of_head gPT tPT Tryd.underlying114 Tryd.underlying95 (by kernel_rfl) (by kernel_rfl) h.tail.tail | exact Lib.tabIs_of_head gPT tPT Tryd.underlying114 Tryd.underlying95 (by kernel_rfl) (by kernel_rfl) h.tail.tail.tail | exact Lib.tabIs_of_head gPT tPT Tryd.underlying114 Tryd.underlying95 (by kernel_rfl) (by kernel_rfl) h.tail.tail.tail.tail | fail "laid")
theorem fnExactNumHolds_met (os : Os) (args : Array Value) : laidMetH Tryd.prog Rows.fnExactNumHoldsRow.laid ((World.doorLaid Tryd.prog 400 os).forCall (fun _ _ => 0) ⟨#[], args, []⟩).memory :=
  laidMetH_of_parts3 (fuel := 8) (laidMet_of_run' 8 (by kernel_rfl) (by kernel_rfl)) (by kernel_rfl) (by kernel_rfl)

set_option maxRecDepth 100000 in
theorem fnExactNumHolds_lifted (os : Os) (started : os.Started) (H : Type) (enc : TypeId × Value → H) :
    ReturnsInHanded {} Tryd.checked os 10 .any (fun w args => (Rows.fnExactNumHoldsSpec.pre enc Tryd.prog Tryd.f10 [] false w args ∧ laidMetH Tryd.prog Rows.fnExactNumHoldsRow.laid w) ∧ sizedMet enc Tryd.prog Tryd.f10 (OpenSpec.ofChange Rows.fnExactNumHoldsSpec) false w args)
      (Rows.fnExactNumHoldsSpec.post enc Tryd.prog Tryd.f10 false true false false) := by
  refine returnsInHanded_of_change_and (C := Tryd.checked) (X := fun w _ => laidMetH Tryd.prog Rows.fnExactNumHoldsRow.laid w) (fun _ _ _ hh h => h.of_heap hh) Tryd.own started (by kernel_rfl) Tryd.func10
    (ChangeSpec.witness_shaped (enc := enc) (C := Tryd.checked) (os := os) (X := fun w _ => laidMetH Tryd.prog Rows.fnExactNumHoldsRow.laid w) false (World.doorLaid Tryd.prog 400 os) #[.agg #[.int .i64 0, .string ⟨#[]⟩, .slice none 0 0], .int .i64 0] 8 rfl (World.shaped_of_RefB (by kernel_rfl) (by kernel_rfl)) (by kernel_rfl) (by kernel_rfl) (by kernel_rfl) (fnExactNumHolds_met os _)) ?_
  intro W base args ds gs before hval0 hW _ _ hL _
  have hval : ∀ (j : Nat) t v, Tryd.f10.params[j]? = some t → args[j]? = some v → Value.okWide Tryd.prog W .any base t v := hval0
  have hW' := hW
  obtain ⟨p, q, hA0, hV, rfl, hfz, hnd⟩ := hW
  have hA : DataW.TrodAll enc Tryd.prog W 0 (fun _ => true) true Tryd.f10.params.toList args.toList ds p := hA0
  rw [Tryd.params10] at hA hval
  obtain ⟨v0, v1, d0, d1, p0, p1, rfl, rfl, rfl, h0, h1⟩ := trodAll_two hA
  obtain ⟨rfl, rfl⟩ := trodVars_none hV
  obtain ⟨e0, he0, hok0, hkok0⟩ := open_expr (hval 0 39 v0 rfl rfl) h0
  obtain ⟨n1, rfl, _, _, wn1⟩ := open_int Tryd.underlying3 (hval 1 3 v1 rfl rfl) h1
  have hvars := fnExactNumHolds_vars hL
  clear hA0 hval0
  simp only [List.append_nil] at hW'
  refine (lawExactNumHolds e0 v0 n1 W he0 hok0 hkok0 hvars).mono fun e W' ⟨he, hw⟩ => ?_
  subst he
  exact ⟨_, rfl, _, _, _, [], _, [], hW', trodAll_mk1 (shut_bool Tryd.underlying4 _), trodAll_mk2 (Below.trod Tryd.laidOut (by kernel_rfl) (of_decide_eq_true (by kernel_rfl)) h0 hw (fun x hx => hW'.lt x (by simp [hx]))) (Below.trod Tryd.laidOut (by kernel_rfl) (of_decide_eq_true (by kernel_rfl)) h1 hw (fun x hx => hW'.lt x (by simp [hx]))), rfl, hw.frame _, fun h => by cases h⟩

theorem fnExactNumHolds_said : Rows.FnExactNumHoldsSaid :=
  OpenClaim.holds_of_wide 10 Tryd.f10 rfl rfl rfl rfl rfl rfl rfl ⟨rfl, rfl, rfl, rfl, rfl⟩ rfl rfl rfl rfl rfl (by kernel_rfl) Tryd.func10 (by kernel_rfl)
    (of_decide_eq_true (by kernel_rfl)) (by unfold Func.isWrapper; first | (rw [if_pos (by decide +kernel)]; kernel_rfl) | (rw [if_neg (by decide +kernel)]; exact ⟨rfl, rfl⟩))
    (fun os started H enc _ => fnExactNumHolds_lifted os started H enc)

theorem fnExactNumHolds_holds : Rows.FnExactNumHoldsCardSaid :=
  Claim7.holds_tied_plain_at .later [] _ true _ true
    fnExactNumHolds_said (fun _ h => by cases h) (by kernel_rfl) (fun _ h => by cases h) fnExactNumHolds_row_tie rfl ⟨rfl, rfl⟩ (by kernel_rfl) rfl
    (fun f fn hf hfn => by
      obtain rfl : f = 10 := Option.some.inj ((show Tryd.prog.funcNamed "loop.example/graphpatterns/laws.FnExactNumHolds" = some 10 by kernel_rfl).symm.trans hf) |>.symm
      obtain rfl : fn = Tryd.f10 := (Option.some.inj (Tryd.func10.symm.trans hfn)).symm
      exact ⟨by kernel_rfl, fun j t ht => by
        rw [Tryd.params10] at ht
        have hm : t ∈ [39, 3] := by simpa using Array.mem_of_getElem? ht
        have hall : ([39, 3].all fun u => !Tryd.prog.wantsStandIn u) = true := by kernel_rfl
        exact (show Tryd.prog.wantsStandIn t = false by simpa using List.all_eq_true.1 hall t hm)⟩)
    (by kernel_rfl)
end Go.Proofs.YtbkndmjdjgccbaaDoor
