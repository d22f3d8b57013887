/- FnExactAutoValid: for every automaton that can be read, impl.AutoValid answers as spec.AutoValid, and the automaton reads as it did, so the law returns true. No condition but the library's variables, which the card ties to the program's text. -/
import Derived.Test.YtbbemeaojmfndaaDoorCards
import Derived.Test.YtbbemeaojmfndaaDoorTie
import Derived.Test.YtbbemeaojmfndaaDoorLExactAutoValid
import Derived.Test.YtbbemeaojmfndaaDoorOpenAc
import Derived.Test.YtbbemeaojmfndaaDoorDoorVars
import Derived.SevenTiedAt
namespace Go.Proofs.YtbbemeaojmfndaaDoor
open Go.ChangeShapes Go.WideShapes Go.ChangeAt Go.RowKit
open Go.ChangeMaps (open_string shut_string)

theorem fnExactAutoValid_vars {W : World} (hh : laidMetH Tryd.prog Rows.fnExactAutoValidRow.laid W) : Vars W := by
  have h : laidMet Tryd.prog Rows.fnExactAutoValidRow.laid W := by rw [MakeChecks.laidMetH_plain _ _ _ (by kernel_rfl)] at hh; exact hh
  refine ⟨?_, ?_, ?_⟩
  · (first | exact laid_iface gES tES Tryd.underlying146 h | exact laid_iface gES tES Tryd.underlying146 h.tail | exact laid_iface gES tES Tryd.underlying146 h.tail.tail | exact laid_iface gES tES Tryd.underlying146 h.tail.tail.tail | exact laid_iface gES tES Tryd.underlying146 h.tail.tail.tail.tail | exact laid_iface gES tES Tryd.underlying146 h.tail.tail.tail.tail.tail | exact laid_iface gES tES Tryd.underlying146 h.tail.tail.tail.tail.tail.tail | exact laid_iface gES tES Tryd.underlying146 h.tail.tail.tail.tail.tail.tail.tail | fail "laid")
  · (first | exact laid_iface gER tER Tryd.underlying146 h | exact laid_iface gER tER Tryd.underlying146 h.tail | exact laid_iface gER tER Tryd.underlying146 h.tail.tail | exact laid_iface gER tER Tryd.underlying146 h.tail.tail.tail | exact laid_iface gER tER Tryd.underlying146 h.tail.tail.tail.tail | exact laid_iface gER tER Tryd.underlying146 h.tail.tail.tail.tail.tail | exact laid_iface gER tER Tryd.underlying146 h.tail.tail.tail.tail.tail.tail | exact laid_iface gER tER Tryd.underlying146 h.tail.tail.tail.tail.tail.tail.tail | fail "laid")
  · (first | exact Lib.tabIs_of_head gPT tPT Tryd.underlying176 Tryd.underlying157 (by kernel_rfl) (by kernel_rfl) h | exact Lib.tabIs_of_head gPT tPT Tryd.underlying176 Tryd.underlying157 (by kernel_rfl) (by kernel_rfl) h.tail | exact Lib.tabIs_of_head gPT tPT Tryd.underlying176 Tryd.underlying157 (by kernel_rfl) (by kernel_rfl) h.tail.tail | exact Lib.tabIs_of_head gPT tPT Tryd.underlying176 Tryd.underlying157 (by kernel_rfl) (by kernel_rfl) h.tail.tail.tail | exact Lib.tabIs_of_head gPT tPT Tryd.underlying176 Tryd.underlying157 (by kernel_rfl) (by kernel_rfl) h.tail.tail.tail.tail | exact Lib.tabIs_of_head gPT tPT Tryd.underlying176 Tryd.underlying157 (by kernel_rfl) (by kernel_rfl) h.tail.tail.tail.tail.tail | exact Lib.tabIs_of_head gPT tPT Tryd.underlying176 Tryd.underlying157 (by kernel_rfl) (by kernel_rfl) h.tail.tail.tail.tail.tail.tail | exact Lib.tabIs_of_head gPT tPT Tryd.underlying176 Tryd.underlying157 (by kernel_rfl) (by kernel_rfl) h.tail.tail.tail.tail.tail.tail.tail | fail "laid")
theorem fnExactAutoValid_met (os : Os) (args : Array Value) : laidMetH Tryd.prog Rows.fnExactAutoValidRow.laid ((World.doorLaid Tryd.prog 400 os).forCall (fun _ _ => 0) ⟨#[], args, []⟩).memory :=
  laidMetH_of_parts3 (fuel := 8) (laidMet_of_run' 8 (by kernel_rfl) (by kernel_rfl)) (by kernel_rfl) (by kernel_rfl)

set_option maxRecDepth 100000 in
theorem fnExactAutoValid_lifted (os : Os) (started : os.Started) (H : Type) (enc : TypeId × Value → H) :
    ReturnsInHanded {} Tryd.checked os 6 .any (fun w args => (Rows.fnExactAutoValidSpec.pre enc Tryd.prog Tryd.f6 [] false w args ∧ laidMetH Tryd.prog Rows.fnExactAutoValidRow.laid w) ∧ sizedMet enc Tryd.prog Tryd.f6 (OpenSpec.ofChange Rows.fnExactAutoValidSpec) false w args)
      (Rows.fnExactAutoValidSpec.post enc Tryd.prog Tryd.f6 false true false false) := by
  refine returnsInHanded_of_change_and (C := Tryd.checked) (X := fun w _ => laidMetH Tryd.prog Rows.fnExactAutoValidRow.laid w) (fun _ _ _ hh h => h.of_heap hh) Tryd.own started (by kernel_rfl) Tryd.func6
    (ChangeSpec.witness_shaped (enc := enc) (C := Tryd.checked) (os := os) (X := fun w _ => laidMetH Tryd.prog Rows.fnExactAutoValidRow.laid w) false (World.doorLaid Tryd.prog 400 os) #[.agg #[.int .i64 0, .slice none 0 0]] 8 rfl (World.shaped_of_RefB (by kernel_rfl) (by kernel_rfl)) (by kernel_rfl) (by kernel_rfl) (by kernel_rfl) (fnExactAutoValid_met os _)) ?_
  intro W base args ds gs before hval0 hW _ _ hL _
  have hval : ∀ (j : Nat) t v, Tryd.f6.params[j]? = some t → args[j]? = some v → Value.okWide Tryd.prog W .any base t v := hval0
  have hW' := hW
  obtain ⟨p, q, hA0, hV, rfl, hfz, hnd⟩ := hW
  have hA : DataW.TrodAll enc Tryd.prog W 0 (fun _ => true) true Tryd.f6.params.toList args.toList ds p := hA0
  rw [Tryd.params6] at hA hval
  obtain ⟨v0, d0, rfl, rfl, h0⟩ := trodAll_one hA
  obtain ⟨rfl, rfl⟩ := trodVars_none hV
  obtain ⟨g0, hg0, hok0⟩ := open_auto (hval 0 54 v0 rfl rfl) h0
  have hvars := fnExactAutoValid_vars hL
  clear hA0 hval0
  simp only [List.append_nil] at hW'
  refine (lawExactAutoValid g0 v0 W hg0 hok0 hvars).mono fun e W' ⟨he, hw⟩ => ?_
  subst he
  exact ⟨_, rfl, _, _, _, [], _, [], hW', trodAll_mk1 (shut_bool Tryd.underlying4 _), trodAll_mk1 (Below.trod Tryd.laidOut (by kernel_rfl) (of_decide_eq_true (by kernel_rfl)) h0 hw (fun x hx => hW'.lt x (by simp [hx]))), rfl, hw.frame _, fun h => by cases h⟩

theorem fnExactAutoValid_said : Rows.FnExactAutoValidSaid :=
  OpenClaim.holds_of_wide 6 Tryd.f6 rfl rfl rfl rfl rfl rfl rfl ⟨rfl, rfl, rfl, rfl, rfl⟩ rfl rfl rfl rfl rfl (by kernel_rfl) Tryd.func6 (by kernel_rfl)
    (of_decide_eq_true (by kernel_rfl)) (by unfold Func.isWrapper; first | (rw [if_pos (by decide +kernel)]; kernel_rfl) | (rw [if_neg (by decide +kernel)]; exact ⟨rfl, rfl⟩))
    (fun os started H enc _ => fnExactAutoValid_lifted os started H enc)

theorem fnExactAutoValid_holds : Rows.FnExactAutoValidCardSaid :=
  Claim7.holds_tied_plain_at .later [] _ true _ true
    fnExactAutoValid_said (fun _ h => by cases h) (by kernel_rfl) (fun _ h => by cases h) fnExactAutoValid_row_tie rfl ⟨rfl, rfl⟩ (by kernel_rfl) rfl
    (fun f fn hf hfn => by
      obtain rfl : f = 6 := Option.some.inj ((show Tryd.prog.funcNamed "loop.example/graphpatterns/laws.FnExactAutoValid" = some 6 by kernel_rfl).symm.trans hf) |>.symm
      obtain rfl : fn = Tryd.f6 := (Option.some.inj (Tryd.func6.symm.trans hfn)).symm
      exact ⟨by kernel_rfl, fun j t ht => by
        rw [Tryd.params6] at ht
        have hm : t ∈ [54] := by simpa using Array.mem_of_getElem? ht
        have hall : ([54].all fun u => !Tryd.prog.wantsStandIn u) = true := by kernel_rfl
        exact (show Tryd.prog.wantsStandIn t = false by simpa using List.all_eq_true.1 hall t hm)⟩)
    (by kernel_rfl)
end Go.Proofs.YtbbemeaojmfndaaDoor
