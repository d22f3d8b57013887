/- FnMergeSame: impl.MergeElems answers as spec.MergeElems at every two elements that are drawn, and merged with itself or with an empty element on either side an element stays as it is, so the law returns true. No condition but the library's variables, which the card ties to the program's text. -/
import Derived.Test.YtbbemeaojmfndaaDoorCards
import Derived.Test.YtbbemeaojmfndaaDoorTie
import Derived.Test.YtbbemeaojmfndaaDoorLMergeSame
import Derived.Test.YtbbemeaojmfndaaDoorM0q0p1
import Derived.Test.YtbbemeaojmfndaaDoorM1q0p1
import Derived.SevenTiedAt
namespace Go.Proofs.YtbbemeaojmfndaaDoor
open Go.ChangeShapes Go.WideShapes Go.ChangeAt Go.RowKit
open Go.ChangeMaps (open_string shut_string)

theorem fnMergeSame_vars {W : World} (hh : laidMetH Tryd.prog Rows.fnMergeSameRow.laid W) : Vars W := by
  have h : laidMet Tryd.prog Rows.fnMergeSameRow.laid W := by rw [MakeChecks.laidMetH_plain _ _ _ (by kernel_rfl)] at hh; exact hh
  refine ⟨?_, ?_, ?_⟩
  · (first | exact laid_iface gES tES Tryd.underlying146 h | exact laid_iface gES tES Tryd.underlying146 h.tail | exact laid_iface gES tES Tryd.underlying146 h.tail.tail | exact laid_iface gES tES Tryd.underlying146 h.tail.tail.tail | exact laid_iface gES tES Tryd.underlying146 h.tail.tail.tail.tail | exact laid_iface gES tES Tryd.underlying146 h.tail.tail.tail.tail.tail | exact laid_iface gES tES Tryd.underlying146 h.tail.tail.tail.tail.tail.tail | exact laid_iface gES tES Tryd.underlying146 h.tail.tail.tail.tail.tail.tail.tail | fail "laid")
  · (first | exact laid_iface gER tER Tryd.underlying146 h | exact laid_iface gER tER Tryd.underlying146 h.tail | exact laid_iface gER tER Tryd.underlying146 h.tail.tail | exact laid_iface gER tER Tryd.underlying146 h.tail.tail.tail | exact laid_iface gER tER Tryd.underlying146 h.tail.tail.tail.tail | exact laid_iface gER tER Tryd.underlying146 h.tail.tail.tail.tail.tail | exact laid_iface gER tER Tryd.underlying146 h.tail.tail.tail.tail.tail.tail | exact laid_iface gER tER Tryd.underlying146 h.tail.tail.tail.tail.tail.tail.tail | fail "laid")
  · (first | exact Lib.tabIs_of_head gPT tPT Tryd.underlying176 Tryd.underlying157 (by kernel_rfl) (by kernel_rfl) h | exact Lib.tabIs_of_head gPT tPT Tryd.underlying176 Tryd.underlying157 (by kernel_rfl) (by kernel_rfl) h.tail | exact Lib.tabIs_of_head gPT tPT Tryd.underlying176 Tryd.underlying157 (by kernel_rfl) (by kernel_rfl) h.tail.tail | exact Lib.tabIs_of_head gPT tPT Tryd.underlying176 Tryd.underlying157 (by kernel_rfl) (by kernel_rfl) h.tail.tail.tail | exact Lib.tabIs_of_head gPT tPT Tryd.underlying176 Tryd.underlying157 (by kernel_rfl) (by kernel_rfl) h.tail.tail.tail.tail | exact Lib.tabIs_of_head gPT tPT Tryd.underlying176 Tryd.underlying157 (by kernel_rfl) (by kernel_rfl) h.tail.tail.tail.tail.tail | exact Lib.tabIs_of_head gPT tPT Tryd.underlying176 Tryd.underlying157 (by kernel_rfl) (by kernel_rfl) h.tail.tail.tail.tail.tail.tail | exact Lib.tabIs_of_head gPT tPT Tryd.underlying176 Tryd.underlying157 (by kernel_rfl) (by kernel_rfl) h.tail.tail.tail.tail.tail.tail.tail | fail "laid")
theorem fnMergeSame_met (os : Os) (args : Array Value) : laidMetH Tryd.prog Rows.fnMergeSameRow.laid ((World.doorLaid Tryd.prog 400 os).forCall (fun _ _ => 0) ⟨#[], args, []⟩).memory :=
  laidMetH_of_parts3 (fuel := 8) (laidMet_of_run' 8 (by kernel_rfl) (by kernel_rfl)) (by kernel_rfl) (by kernel_rfl)

set_option maxRecDepth 100000 in
theorem fnMergeSame_lifted (os : Os) (started : os.Started) (H : Type) (enc : TypeId × Value → H) :
    ReturnsInHanded {} Tryd.checked os 4 .any (fun w args => (Rows.fnMergeSameSpec.pre enc Tryd.prog Tryd.f4 [] false w args ∧ laidMetH Tryd.prog Rows.fnMergeSameRow.laid w) ∧ sizedMet enc Tryd.prog Tryd.f4 (OpenSpec.ofChange Rows.fnMergeSameSpec) false w args)
      (Rows.fnMergeSameSpec.post enc Tryd.prog Tryd.f4 false true false false) := by
  refine returnsInHanded_of_change_and (C := Tryd.checked) (X := fun w _ => laidMetH Tryd.prog Rows.fnMergeSameRow.laid w) (fun _ _ _ hh h => h.of_heap hh) Tryd.own started (by kernel_rfl) Tryd.func4
    (ChangeSpec.witness_shaped (enc := enc) (C := Tryd.checked) (os := os) (X := fun w _ => laidMetH Tryd.prog Rows.fnMergeSameRow.laid w) false (World.doorLaid Tryd.prog 400 os) #[.slice none 0 0] 8 rfl (World.shaped_of_RefB (by kernel_rfl) (by kernel_rfl)) (by kernel_rfl) (by kernel_rfl) (by kernel_rfl) (fnMergeSame_met os _)) ?_
  intro W base args ds gs before hval0 hW _ _ hL _
  have hval : ∀ (j : Nat) t v, Tryd.f4.params[j]? = some t → args[j]? = some v → Value.okWide Tryd.prog W .any base t v := hval0
  have hW' := hW
  obtain ⟨p, q, hA0, hV, rfl, hfz, hnd⟩ := hW
  have hA : DataW.TrodAll enc Tryd.prog W 0 (fun _ => true) true Tryd.f4.params.toList args.toList ds p := hA0
  rw [Tryd.params4] at hA hval
  obtain ⟨v0, d0, rfl, rfl, h0⟩ := trodAll_one hA
  obtain ⟨rfl, rfl⟩ := trodVars_none hV
  obtain ⟨bs0, hbs0⟩ := open_bytes (hval 0 22 v0 rfl rfl) h0
  have hvars := fnMergeSame_vars hL
  clear hA0 hval0
  simp only [List.append_nil] at hW'
  refine (lawMergeSame bs0 v0 W hbs0.1 hbs0.2 hvars).mono fun e W' ⟨he, hw⟩ => ?_
  subst he
  exact ⟨_, rfl, _, _, _, [], _, [], hW', trodAll_mk1 (shut_bool Tryd.underlying4 _), trodAll_mk1 (Below.trod Tryd.laidOut (by kernel_rfl) (of_decide_eq_true (by kernel_rfl)) h0 hw (fun x hx => hW'.lt x (by simp [hx]))), rfl, hw.frame _, fun h => by cases h⟩

theorem fnMergeSame_said : Rows.FnMergeSameSaid :=
  OpenClaim.holds_of_wide 4 Tryd.f4 rfl rfl rfl rfl rfl rfl rfl ⟨rfl, rfl, rfl, rfl, rfl⟩ rfl rfl rfl rfl rfl (by kernel_rfl) Tryd.func4 (by kernel_rfl)
    (of_decide_eq_true (by kernel_rfl)) (by unfold Func.isWrapper; first | (rw [if_pos (by decide +kernel)]; kernel_rfl) | (rw [if_neg (by decide +kernel)]; exact ⟨rfl, rfl⟩))
    (fun os started H enc _ => fnMergeSame_lifted os started H enc)

theorem fnMergeSame_holds : Rows.FnMergeSameCardSaid :=
  Claim7.holds_tied_plain_at .later [] _ true _ true
    fnMergeSame_said (fun _ h => by cases h) (by kernel_rfl) (fun _ h => by cases h) fnMergeSame_row_tie rfl ⟨rfl, rfl⟩ (by kernel_rfl) rfl
    (fun f fn hf hfn => by
      obtain rfl : f = 4 := Option.some.inj ((show Tryd.prog.funcNamed "loop.example/graphpatterns/laws.FnMergeSame" = some 4 by kernel_rfl).symm.trans hf) |>.symm
      obtain rfl : fn = Tryd.f4 := (Option.some.inj (Tryd.func4.symm.trans hfn)).symm
      exact ⟨by kernel_rfl, fun j t ht => by
        rw [Tryd.params4] at ht
        have hm : t ∈ [22] := by simpa using Array.mem_of_getElem? ht
        have hall : ([22].all fun u => !Tryd.prog.wantsStandIn u) = true := by kernel_rfl
        exact (show Tryd.prog.wantsStandIn t = false by simpa using List.all_eq_true.1 hall t hm)⟩)
    (by kernel_rfl)
end Go.Proofs.YtbbemeaojmfndaaDoor
