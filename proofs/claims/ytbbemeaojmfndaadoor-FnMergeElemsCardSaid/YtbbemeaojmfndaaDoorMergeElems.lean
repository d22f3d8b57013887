/- FnMergeElems: impl.MergeElems answers as spec.MergeElems at every two elements that are drawn, a merged element is valid, and a node fits it exactly if it fits both, so the law returns true. No condition but the library's variables, which the card ties to the program's text. -/
import Derived.Test.YtbbemeaojmfndaaDoorCards
import Derived.Test.YtbbemeaojmfndaaDoorTie
import Derived.Test.YtbbemeaojmfndaaDoorLMergeElems
import Derived.Test.YtbbemeaojmfndaaDoorM0q0p1
import Derived.Test.YtbbemeaojmfndaaDoorM1q0p1
import Derived.SevenTiedAt
namespace Go.Proofs.YtbbemeaojmfndaaDoor
open Go.ChangeShapes Go.WideShapes Go.ChangeAt Go.RowKit
open Go.ChangeMaps (open_string shut_string)

theorem fnMergeElems_vars {W : World} (hh : laidMetH Tryd.prog Rows.fnMergeElemsRow.laid W) : Vars W := by
  have h : laidMet Tryd.prog Rows.fnMergeElemsRow.laid W := by rw [MakeChecks.laidMetH_plain _ _ _ (by kernel_rfl)] at hh; exact hh
  refine ⟨?_, ?_, ?_⟩
  · (first | exact laid_iface gES tES Tryd.underlying146 h | exact laid_iface gES tES Tryd.underlying146 h.tail | exact laid_iface gES tES Tryd.underlying146 h.tail.tail | exact laid_iface gES tES Tryd.underlying146 h.tail.tail.tail | exact laid_iface gES tES Tryd.underlying146 h.tail.tail.tail.tail | exact laid_iface gES tES Tryd.underlying146 h.tail.tail.tail.tail.tail | exact laid_iface gES tES Tryd.underlying146 h.tail.tail.tail.tail.tail.tail | exact laid_iface gES tES Tryd.underlying146 h.tail.tail.tail.tail.tail.tail.tail | fail "laid")
  · (first | exact laid_iface gER tER Tryd.underlying146 h | exact laid_iface gER tER Tryd.underlying146 h.tail | exact laid_iface gER tER Tryd.underlying146 h.tail.tail | exact laid_iface gER tER Tryd.underlying146 h.tail.tail.tail | exact laid_iface gER tER Tryd.underlying146 h.tail.tail.tail.tail | exact laid_iface gER tER Tryd.underlying146 h.tail.tail.tail.tail.tail | exact laid_iface gER tER Tryd.underlying146 h.tail.tail.tail.tail.tail.tail | exact laid_iface gER tER Tryd.underlying146 h.tail.tail.tail.tail.tail.tail.tail | fail "laid")
  · (first | exact Lib.tabIs_of_head gPT tPT Tryd.underlying176 Tryd.underlying157 (by kernel_rfl) (by kernel_rfl) h | exact Lib.tabIs_of_head gPT tPT Tryd.underlying176 Tryd.underlying157 (by kernel_rfl) (by kernel_rfl) h.tail | exact Lib.tabIs_of_head gPT tPT Tryd.underlying176 Tryd.underlying157 (by kernel_rfl) (by kernel_rfl) h.tail.tail | exact Lib.tabIs_of_head gPT tPT Tryd.underlying176 Tryd.underlying157 (by kernel_rfl) (by kernel_rfl) h.tail.tail.tail | exact Lib.tabIs_of_head gPT tPT Tryd.underlying176 Tryd.underlying157 (by kernel_rfl) (by kernel_rfl) h.tail.tail.tail.tail | exact Lib.tabIs_of_head gPT tPT Tryd.underlying176 Tryd.underlying157 (by kernel_rfl) (by kernel_rfl) h.tail.tail.tail.tail.tail | exact Lib.tabIs_of_head gPT tPT Tryd.underlying176 Tryd.underlying157 (by kernel_rfl) (by kernel_rfl) h.tail.tail.tail.tail.tail.tail | exact Lib.tabIs_of_head gPT tPT Tryd.underlying176 Tryd.underlying157 (by kernel_rfl) (by kernel_rfl) h.tail.tail.tail.tail.tail.tail.tail | fail "laid")
theorem fnMergeElems_met (os : Os) (args : Array Value) : laidMetH Tryd.prog Rows.fnMergeElemsRow.laid ((World.doorLaid Tryd.prog 400 os).forCall (fun _ _ => 0) ⟨#[], args, []⟩).memory :=
  laidMetH_of_parts3 (fuel := 8) (laidMet_of_run' 8 (by kernel_rfl) (by kernel_rfl)) (by kernel_rfl) (by kernel_rfl)

set_option maxRecDepth 100000 in
theorem fnMergeElems_lifted (os : Os) (started : os.Started) (H : Type) (enc : TypeId × Value → H) :
    ReturnsInHanded {} Tryd.checked os 3 .any (fun w args => (Rows.fnMergeElemsSpec.pre enc Tryd.prog Tryd.f3 [] false w args ∧ laidMetH Tryd.prog Rows.fnMergeElemsRow.laid w) ∧ sizedMet enc Tryd.prog Tryd.f3 (OpenSpec.ofChange Rows.fnMergeElemsSpec) false w args)
      (Rows.fnMergeElemsSpec.post enc Tryd.prog Tryd.f3 false true false false) := by
  refine returnsInHanded_of_change_and (C := Tryd.checked) (X := fun w _ => laidMetH Tryd.prog Rows.fnMergeElemsRow.laid w) (fun _ _ _ hh h => h.of_heap hh) Tryd.own started (by kernel_rfl) Tryd.func3
    (ChangeSpec.witness_shaped (enc := enc) (C := Tryd.checked) (os := os) (X := fun w _ => laidMetH Tryd.prog Rows.fnMergeElemsRow.laid w) false (World.doorLaid Tryd.prog 400 os) #[.slice none 0 0, .slice none 0 0] 8 rfl (World.shaped_of_RefB (by kernel_rfl) (by kernel_rfl)) (by kernel_rfl) (by kernel_rfl) (by kernel_rfl) (fnMergeElems_met os _)) ?_
  intro W base args ds gs before hval0 hW _ _ hL _
  have hval : ∀ (j : Nat) t v, Tryd.f3.params[j]? = some t → args[j]? = some v → Value.okWide Tryd.prog W .any base t v := hval0
  have hW' := hW
  obtain ⟨p, q, hA0, hV, rfl, hfz, hnd⟩ := hW
  have hA : DataW.TrodAll enc Tryd.prog W 0 (fun _ => true) true Tryd.f3.params.toList args.toList ds p := hA0
  rw [Tryd.params3] at hA hval
  obtain ⟨v0, v1, d0, d1, p0, p1, rfl, rfl, rfl, h0, h1⟩ := trodAll_two hA
  obtain ⟨rfl, rfl⟩ := trodVars_none hV
  obtain ⟨bs0, hbs0⟩ := open_bytes (hval 0 22 v0 rfl rfl) h0
  obtain ⟨bs1, hbs1⟩ := open_bytes (hval 1 22 v1 rfl rfl) h1
  have hvars := fnMergeElems_vars hL
  clear hA0 hval0
  simp only [List.append_nil] at hW'
  refine (lawMergeElems bs0 bs1 v0 v1 W hbs0.1 hbs1.1 hbs0.2 hbs1.2 hvars).mono fun e W' ⟨he, hw⟩ => ?_
  subst he
  exact ⟨_, rfl, _, _, _, [], _, [], hW', trodAll_mk1 (shut_bool Tryd.underlying4 _), trodAll_mk2 (Below.trod Tryd.laidOut (by kernel_rfl) (of_decide_eq_true (by kernel_rfl)) h0 hw (fun x hx => hW'.lt x (by simp [hx]))) (Below.trod Tryd.laidOut (by kernel_rfl) (of_decide_eq_true (by kernel_rfl)) h1 hw (fun x hx => hW'.lt x (by simp [hx]))), rfl, hw.frame _, fun h => by cases h⟩

theorem fnMergeElems_said : Rows.FnMergeElemsSaid :=
  OpenClaim.holds_of_wide 3 Tryd.f3 rfl rfl rfl rfl rfl rfl rfl ⟨rfl, rfl, rfl, rfl, rfl⟩ rfl rfl rfl rfl rfl (by kernel_rfl) Tryd.func3 (by kernel_rfl)
    (of_decide_eq_true (by kernel_rfl)) (by unfold Func.isWrapper; first | (rw [if_pos (by decide +kernel)]; kernel_rfl) | (rw [if_neg (by decide +kernel)]; exact ⟨rfl, rfl⟩))
    (fun os started H enc _ => fnMergeElems_lifted os started H enc)

theorem fnMergeElems_holds : Rows.FnMergeElemsCardSaid :=
  Claim7.holds_tied_plain_at .later [] _ true _ true
    fnMergeElems_said (fun _ h => by cases h) (by kernel_rfl) (fun _ h => by cases h) fnMergeElems_row_tie rfl ⟨rfl, rfl⟩ (by kernel_rfl) rfl
    (fun f fn hf hfn => by
      obtain rfl : f = 3 := Option.some.inj ((show Tryd.prog.funcNamed "loop.example/graphpatterns/laws.FnMergeElems" = some 3 by kernel_rfl).symm.trans hf) |>.symm
      obtain rfl : fn = Tryd.f3 := (Option.some.inj (Tryd.func3.symm.trans hfn)).symm
      exact ⟨by kernel_rfl, fun j t ht => by
        rw [Tryd.params3] at ht
        have hm : t ∈ [22, 22] := by simpa using Array.mem_of_getElem? ht
        have hall : ([22, 22].all fun u => !Tryd.prog.wantsStandIn u) = true := by kernel_rfl
        exact (show Tryd.prog.wantsStandIn t = false by simpa using List.all_eq_true.1 hall t hm)⟩)
    (by kernel_rfl)
end Go.Proofs.YtbbemeaojmfndaaDoor
