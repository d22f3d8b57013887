/- FnExactPushNots: for every expression and every kind that can be read, impl.PushNots answers as spec.PushNots, writes into no argument and owns its answer's memory, so the law returns true. No condition but the library's variables, which the card ties to the program's text. -/
import Derived.Test.YtekhjlmbhoegkaaDoorCards
import Derived.Test.YtekhjlmbhoegkaaDoorTie
import Derived.Test.YtekhjlmbhoegkaaDoorLExactPushNots
import Derived.Test.YtekhjlmbhoegkaaDoorOpenE
import Derived.Test.YtekhjlmbhoegkaaDoorDoorVars
import Derived.SevenTiedAt
namespace Go.Proofs.YtekhjlmbhoegkaaDoor
open Go.ChangeShapes Go.WideShapes Go.ChangeAt Go.RowKit
open Go.ChangeMaps (open_string shut_string)

theorem fnExactPushNots_vars {W : World} (hh : laidMetH Tryd.prog Rows.fnExactPushNotsRow.laid W) : Vars W := by
  have h : laidMet Tryd.prog Rows.fnExactPushNotsRow.laid W := by rw [MakeChecks.laidMetH_plain _ _ _ (by kernel_rfl)] at hh; exact hh
  refine ⟨?_, ?_, ?_⟩
  · (first | exact laid_iface gES tES Tryd.underlying120 h | exact laid_iface gES tES Tryd.underlying120 h.tail | exact laid_iface gES tES Tryd.underlying120 h.tail.tail | exact laid_iface gES tES Tryd.underlying120 h.tail.tail.tail | exact laid_iface gES tES Tryd.underlying120 h.tail.tail.tail.tail | exact laid_iface gES tES Tryd.underlying120 h.tail.tail.tail.tail.tail | fail "laid")
  · (first | exact laid_iface gER tER Tryd.underlying120 h | exact laid_iface gER tER Tryd.underlying120 h.tail | exact laid_iface gER tER Tryd.underlying120 h.tail.tail | exact laid_iface gER tER Tryd.underlying120 h.tail.tail.tail | exact laid_iface gER tER Tryd.underlying120 h.tail.tail.tail.tail | exact laid_iface gER tER Tryd.underlying120 h.tail.tail.tail.tail.tail | fail "laid")
  · (first | exact Lib.tabIs_of_head gPT tPT Tryd.underlying151 Tryd.underlying131 (by kernel_rfl) (by kernel_rfl) h | exact Lib.tabIs_of_head gPT tPT Tryd.underlying151 Tryd.underlying131 (by kernel_rfl) (by kernel_rfl) h.tail | exact Lib.tabIs_of_head gPT tPT Tryd.underlying151 Tryd.underlying131 (by kernel_rfl) (by kernel_rfl) h.tail.tail | exact Lib.tabIs_of_head gPT tPT Tryd.underlying151 Tryd.underlying131 (by kernel_rfl) (by kernel_rfl) h.tail.tail.tail | exact Lib.tabIs_of_head gPT tPT Tryd.underlying151 Tryd.underlying131 (by kernel_rfl) (by kernel_rfl) h.tail.tail.tail.tail | exact Lib.tabIs_of_head gPT tPT Tryd.underlying151 Tryd.underlying131 (by kernel_rfl) (by kernel_rfl) h.tail.tail.tail.tail.tail | fail "laid")
theorem fnExactPushNots_met (os : Os) (args : Array Value) : laidMetH Tryd.prog Rows.fnExactPushNotsRow.laid ((World.doorLaid Tryd.prog 400 os).forCall (fun _ _ => 0) ⟨#[], args, []⟩).memory :=
  laidMetH_of_parts3 (fuel := 8) (laidMet_of_run' 8 (by kernel_rfl) (by kernel_rfl)) (by kernel_rfl) (by kernel_rfl)

set_option maxRecDepth 100000 in
theorem fnExactPushNots_lifted (os : Os) (started : os.Started) (H : Type) (enc : TypeId × Value → H) :
    ReturnsInHanded {} Tryd.checked os 8 .any (fun w args => (Rows.fnExactPushNotsSpec.pre enc Tryd.prog Tryd.f8 [] false w args ∧ laidMetH Tryd.prog Rows.fnExactPushNotsRow.laid w) ∧ sizedMet enc Tryd.prog Tryd.f8 (OpenSpec.ofChange Rows.fnExactPushNotsSpec) false w args)
      (Rows.fnExactPushNotsSpec.post enc Tryd.prog Tryd.f8 false true false false) := by
  refine returnsInHanded_of_change_and (C := Tryd.checked) (X := fun w _ => laidMetH Tryd.prog Rows.fnExactPushNotsRow.laid w) (fun _ _ _ hh h => h.of_heap hh) Tryd.own started (by kernel_rfl) Tryd.func8
    (ChangeSpec.witness_shaped (enc := enc) (C := Tryd.checked) (os := os) (X := fun w _ => laidMetH Tryd.prog Rows.fnExactPushNotsRow.laid w) false (World.doorLaid Tryd.prog 400 os) #[.agg #[.int .i64 0, .string ⟨#[]⟩, .slice none 0 0], .int .i64 0] 8 rfl (World.shaped_of_RefB (by kernel_rfl) (by kernel_rfl)) (by kernel_rfl) (by kernel_rfl) (by kernel_rfl) (fnExactPushNots_met os _)) ?_
  intro W base args ds gs before hval0 hW _ _ hL _
  have hval : ∀ (j : Nat) t v, Tryd.f8.params[j]? = some t → args[j]? = some v → Value.okWide Tryd.prog W .any base t v := hval0
  have hW' := hW
  obtain ⟨p, q, hA0, hV, rfl, hfz, hnd⟩ := hW
  have hA : DataW.TrodAll enc Tryd.prog W 0 (fun _ => true) true Tryd.f8.params.toList args.toList ds p := hA0
  rw [Tryd.params8] at hA hval
  obtain ⟨v0, v1, d0, d1, p0, p1, rfl, rfl, rfl, h0, h1⟩ := trodAll_two hA
  obtain ⟨rfl, rfl⟩ := trodVars_none hV
  obtain ⟨e0, he0, hok0, hkok0⟩ := open_expr (hval 0 24 v0 rfl rfl) h0
  obtain ⟨n1, rfl, _, _, wn1⟩ := open_int Tryd.underlying3 (hval 1 3 v1 rfl rfl) h1
  have hvars := fnExactPushNots_vars hL
  clear hA0 hval0
  simp only [List.append_nil] at hW'
  refine (lawExactPushNots e0 v0 n1 W he0 hok0 hkok0 hvars).mono fun e W' ⟨he, hw⟩ => ?_
  subst he
  exact ⟨_, rfl, _, _, _, [], _, [], hW', trodAll_mk1 (shut_bool Tryd.underlying4 _), trodAll_mk2 (Below.trod Tryd.laidOut (by kernel_rfl) (of_decide_eq_true (by kernel_rfl)) h0 hw (fun x hx => hW'.lt x (by simp [hx]))) (Below.trod Tryd.laidOut (by kernel_rfl) (of_decide_eq_true (by kernel_rfl)) h1 hw (fun x hx => hW'.lt x (by simp [hx]))), rfl, hw.frame _, fun h => by cases h⟩

theorem fnExactPushNots_said : Rows.FnExactPushNotsSaid :=
  OpenClaim.holds_of_wide 8 Tryd.f8 rfl rfl rfl rfl rfl rfl rfl ⟨rfl, rfl, rfl, rfl, rfl⟩ rfl rfl rfl rfl rfl (by kernel_rfl) Tryd.func8 (by kernel_rfl)
    (of_decide_eq_true (by kernel_rfl)) (by unfold Func.isWrapper; first | (rw [if_pos (by decide +kernel)]; kernel_rfl) | (rw [if_neg (by decide +kernel)]; exact ⟨rfl, rfl⟩))
    (fun os started H enc _ => fnExactPushNots_lifted os started H enc)

theorem fnExactPushNots_holds : Rows.FnExactPushNotsCardSaid :=
  Claim7.holds_tied_plain_at .later [] _ true _ true
    fnExactPushNots_said (fun _ h => by cases h) (by kernel_rfl) (fun _ h => by cases h) fnExactPushNots_row_tie rfl ⟨rfl, rfl⟩ (by kernel_rfl) rfl
    (fun f fn hf hfn => by
      obtain rfl : f = 8 := Option.some.inj ((show Tryd.prog.funcNamed "loop.example/graphpatterns/laws.FnExactPushNots" = some 8 by kernel_rfl).symm.trans hf) |>.symm
      obtain rfl : fn = Tryd.f8 := (Option.some.inj (Tryd.func8.symm.trans hfn)).symm
      exact ⟨by kernel_rfl, fun j t ht => by
        rw [Tryd.params8] at ht
        have hm : t ∈ [24, 3] := by simpa using Array.mem_of_getElem? ht
        have hall : ([24, 3].all fun u => !Tryd.prog.wantsStandIn u) = true := by kernel_rfl
        exact (show Tryd.prog.wantsStandIn t = false by simpa using List.all_eq_true.1 hall t hm)⟩)
    (by kernel_rfl)
end Go.Proofs.YtekhjlmbhoegkaaDoor
