/- WALKS: the code's roads, Fault, Check. -/
import Derived.Test.YtmkdoejpgkgpbaaDoorRoO
set_option linter.unusedVariables false
set_option linter.unusedSimpArgs false
namespace Go.Proofs.YtmkdoejpgkgpbaaDoor
open Go.RowKit Li Ro

theorem flK_flR (s : ByteArray) (k : Nat) : flK s k = (flR s k).map (r0 s k + ·) := rfl
/-- begin and fault, one behind the other -/
theorem fault_at {s : ByteArray} {w : World} {B f g k : Nat} {aF aN aL : Option Addr} {nF cFc nN cNc nL cLc : Nat} {arr : Array Value} (hcd : CdAt s w B (.slice aF nF cFc) (.slice aN nN cNc) (.slice aL nL cLc)) {w0 : World} (hcd0 : CdAt s w0 B (.slice aF nF cFc) (.slice aN nN cNc) (.slice aL nL cLc)) (hg : w0.heap.size ≤ g)
    (hrow : bad (rowB s) (hF s) 0 = none) (hk : k < hF s) (hop : scan (opK s) (hF s) 0 = none) (hfg : f ≠ g)
    (hf : w.heap[f]? = some (flB' (.slice aF nF cFc) (.slice aN nN cNc) (.slice aL nL cLc) (r0 s k) (.slice (some ⟨g, 0, none⟩) (en s k - r0 s k) (en s k - r0 s k)))) (hb : w.heap[g]? = some (.cells arr 105 (0, 0))) (hS : RoadS w g (en s k - r0 s k) 0 ((fnS s k).st 0)) :
    Calls Tryd.prog 45 #[.pointer (some ⟨f, 0, none⟩)] w fun e w' => e = .returned (.int .i64 (flI (r0 s k) (flR s k))) ∧ Lg g w w' := by
  obtain ⟨he1, he2⟩ := en_lt hrow hk
  refine fault_any hcd (fun v hv h => ?_) hrow hk (fun pc h1 h2 => Wl.of ?_) rfl hfg hf hb hS rfl
  · rcases hv with rfl | rfl | rfl
    · have := (hcd0.funs.lt g h).2; omega
    · have := (hcd0.nums.lt g h).2; omega
    · have := (hcd0.lines.lt g h).2; omega
  · have h3 := scan_none _ _ hop k (by omega) (by omega)
    exact bad_none _ _ h3 pc (by omega) (by omega)
set_option maxRecDepth 100000 in
set_option maxHeartbeats 1600000 in
theorem roads_any {s : ByteArray} {w : World} {B : Nat} {aF aN aL : Option Addr} {nF cFc nN cNc nL cLc : Nat} {R : Option Nat} (hcd : CdAt s w B (.slice aF nF cFc) (.slice aN nN cNc) (.slice aL nL cLc)) (hrow : bad (rowB s) (hF s) 0 = none) (hop : scan (opK s) (hF s) 0 = none) (hR : scan (flK s) (hF s) 0 = R) :
    Calls Tryd.prog 31 #[.agg #[.slice aF nF cFc, .slice aN nN cNc, .slice aL nL cLc]] w fun e w' => e = .returned (.tuple #[.int .i64 (if R = none then 0 else 12 : Nat), .int .i64 (R.getD 0 : Nat)]) ∧ Below w.heap.size w w' := by
  have hFl : hF s < 65536 := n2_lt _ _
  have hnF : nF = hF s := by
    obtain ⟨a3, c3, h3⟩ := or_slice hcd.funs
    injection h3
  obtain ⟨er, her⟩ : ∃ er : Nat, (if R = none then 0 else 12) = er := ⟨_, rfl⟩
  obtain ⟨at', hat'⟩ : ∃ a : Nat, R.getD 0 = a := ⟨_, rfl⟩
  rw [her, hat']
  have HER := Lib.hid her
  have HAT := Lib.hid hat'
  clear her hat'
  have HR := Lib.hid hR
  have HCD := Lib.hid hcd
  have HRW := Lib.hid hrow
  have HOP := Lib.hid hop
  clear hR hcd hrow hop
  have HB0 : Hid (∀ o : Obj, Below w.heap.size w (w.alloc o)) := fun o => (Below.refl _ _).alloc (Nat.le_refl _) _
  subst hnF
  go_enter Tryd.func31, Tryd.ntmps31
  go_wp2
  go_loopg [4] (hF s) (fun gh i (wr : World) => ∃ k : Nat, k ≤ hF s ∧ gh = hF s - k ∧ i = .int .i64 k ∧ scan (flK s) (hF s - k) k = R ∧ wr.heap[w.heap.size]? = some (.cells #[.slice aF (hF s) cFc, .slice aN nN cNc, .slice aL nL cLc] 38 (0, 0)) ∧ Below w.heap.size w wr)
  case atStart => exact ⟨0, by omega, by omega, rfl, HR.out, lb_new w _, HB0.out _⟩
  case round =>
    obtain ⟨k, hk, hgk, rfl, hsc, hbox, hbw⟩ := hrel
    have c0 := lb_at hbox 0 rfl
    have c1 := lb_at hbox 1 rfl
    have c2 := lb_at hbox 2 rfl
    simp only [List.getElem_toArray, List.getElem_cons_zero, List.getElem_cons_succ] at c0 c1 c2
    have hlt0 := lt_of_block hbox
    by_cases hlt : k < hF s
    · have HSC := Lib.hid hsc
      have HBX := Lib.hid hbox
      have HBW := Lib.hid hbw
      have hcd1 := HCD.out.on hbw
      have CB : Hid (Calls Tryd.prog 44 #[.agg #[.slice aF (hF s) cFc, .slice aN nN cNc, .slice aL nL cLc], .int .i64 k] wr fun e w' => ∃ (f g : Nat), e = .returned (.pointer (some ⟨f, 0, none⟩)) ∧ wr.heap.size ≤ g ∧ Below wr.heap.size wr w' ∧ Calls Tryd.prog 45 #[.pointer (some ⟨f, 0, none⟩)] w' fun e w'' => e = .returned (.int .i64 (flI (r0 s k) (flR s k))) ∧ Lg g w' w'') := by
        refine (begin_any hcd1 HRW.out hlt).mono ?_
        rintro e w' ⟨f, g, arr, rfl, h1, h2, h3, h4, h5, h6, h7⟩
        exact ⟨f, g, rfl, h2, h7, fault_at (hcd1.on h7) hcd1 h2 HRW.out hlt HOP.out h3 h4 h5 h6⟩
      have hr0 : r0 s k < 65536 := n2_lt _ _
      clear hsc hbox hbw hcd1
      cases hfl : flR s k with
      | none =>
        rw [hfl] at CB
        have HNX : Hid (scan (flK s) (hF s - (k + 1)) (k + 1) = R) := by
          have h := HSC.out
          rw [show hF s - k = (hF s - (k + 1)) + 1 by omega, scan, flK_flR, hfl] at h
          exact h
        have CB2 : Hid (Calls Tryd.prog 44 #[.agg #[.slice aF (hF s) cFc, .slice aN nN cNc, .slice aL nL cLc], .int .i64 k] wr fun e w' => ∃ (f g : Nat), e = .returned (.pointer (some ⟨f, 0, none⟩)) ∧ wr.heap.size ≤ g ∧ Below wr.heap.size wr w' ∧ Calls Tryd.prog 45 #[.pointer (some ⟨f, 0, none⟩)] w' fun e w'' => e = .returned (.int .i64 (-1)) ∧ Lg g w' w'') := CB.out
        clear CB hfl
        go_wp2_with (first
          | (go_at_call 44; refine CB2.out.mono ?_; rintro _ w1 ⟨f, g, rfl, hg, hb1, C1⟩; have HC1 := Lib.hid C1; clear C1)
          | (go_at_call 45; refine HC1.out.mono ?_; rintro _ w2 ⟨rfl, hL2⟩))
        go_roundg (hF s - (k + 1))
        case measure => omega
        case rel =>
          have hb2 : Below wr.heap.size wr w2 := hb1.trans (hL2.lone.below.mono hg)
          exact ⟨k + 1, by omega, rfl, by go_num, HNX.out, lb_below HBX.out hb2 hlt0, HBW.out.trans (hb2.mono HBW.out.size)⟩
      | some i =>
        rw [hfl] at CB
        have HRE : Hid (R = some (r0 s k + i)) := by
          have h := HSC.out
          rw [show hF s - k = (hF s - (k + 1)) + 1 by omega, scan, flK_flR, hfl] at h
          exact h.symm
        have CB2 : Hid (Calls Tryd.prog 44 #[.agg #[.slice aF (hF s) cFc, .slice aN nN cNc, .slice aL nL cLc], .int .i64 k] wr fun e w' => ∃ (f g : Nat), e = .returned (.pointer (some ⟨f, 0, none⟩)) ∧ wr.heap.size ≤ g ∧ Below wr.heap.size wr w' ∧ Calls Tryd.prog 45 #[.pointer (some ⟨f, 0, none⟩)] w' fun e w'' => e = .returned (.int .i64 ((r0 s k + i : Nat) : Int)) ∧ Lg g w' w'') := CB.out
        clear CB hfl
        generalize r0 s k + i = ln at *
        have hln : (0 : Int) ≤ (ln : Int) := by omega
        go_wp2_with (first
          | (go_at_call 44; refine CB2.out.mono ?_; rintro _ w1 ⟨f, g, rfl, hg, hb1, C1⟩; have HC1 := Lib.hid C1; clear C1)
          | (go_at_call 45; refine HC1.out.mono ?_; rintro _ w2 ⟨rfl, hL2⟩))
        go_ret2
        have e1 : er = 12 := by rw [← HER.out, HRE.out]; rfl
        have e2 : at' = ln := by rw [← HAT.out, HRE.out]; rfl
        subst e1 e2
        exact ⟨rfl, HBW.out.trans ((hb1.trans (hL2.lone.below.mono hg)).mono HBW.out.size)⟩
    · have hke : hF s - k = 0 := by omega
      rw [hke] at hsc
      have HRN : Hid (R = none) := hsc.symm
      clear hsc hbox
      go_wp2_with fail
      go_ret2
      have e1 : er = 0 := by rw [← HER.out, HRN.out]; rfl
      have e2 : at' = 0 := by rw [← HAT.out, HRN.out]; rfl
      subst e1 e2
      exact ⟨rfl, hbw⟩
/-- Fault's answer -/
def fauR (s : ByteArray) : Nat × Nat :=
  match scan (opK s) (hF s) 0 with
  | some p => (11, p)
  | none => match scan (flK s) (hF s) 0 with
    | some p => (12, p)
    | none => (0, 0)
set_option maxRecDepth 100000 in
set_option maxHeartbeats 1600000 in
theorem fau_any {s : ByteArray} {w : World} {B : Nat} {aF aN aL : Option Addr} {nF cFc nN cNc nL cLc : Nat} {er at' : Nat} (hcd : CdAt s w B (.slice aF nF cFc) (.slice aN nN cNc) (.slice aL nL cLc)) (hrow : bad (rowB s) (hF s) 0 = none) (hl : LaidF w.heap.size w) (hR : fauR s = (er, at')) :
    Calls Tryd.prog 17 #[.agg #[.slice aF nF cFc, .slice aN nN cNc, .slice aL nL cLc]] w fun e w' => e = .returned (.tuple #[.int .i64 er, .int .i64 at']) ∧ Below w.heap.size w w' := by
  have HB : Hid (∀ o : Obj, Below w.heap.size w (w.alloc o)) := fun o => (Below.refl _ _).alloc (Nat.le_refl _) _
  cases hop : scan (opK s) (hF s) 0 with
  | some p =>
    have e1 : 11 = er := by unfold fauR at hR; rw [hop] at hR; exact congrArg Prod.fst hR
    have e2 : p = at' := by unfold fauR at hR; rw [hop] at hR; exact congrArg Prod.snd hR
    have CL : Hid (∀ o : Obj, Calls Tryd.prog 30 #[.agg #[.slice aF nF cFc, .slice aN nN cNc, .slice aL nL cLc]] (w.alloc o) fun e w' => e = .returned (.tuple #[.int .i64 11, .int .i64 p]) ∧ Below (w.alloc o).heap.size (w.alloc o) w') := fun o => clines_any (hcd.on (HB.out o)) hrow ((hl.on (HB.out o)).less (by rw [World.size_alloc]; omega)) hop
    subst e1 e2
    clear hcd hl hop hR hrow
    go_enter Tryd.func17, Tryd.ntmps17
    go_wp2_with (go_at_call 30; refine (CL.out _).mono ?_; rintro _ w1 ⟨rfl, hb1⟩; have HB1 := Lib.hid ((HB.out _).trans (hb1.mono (by rw [World.size_alloc]; omega))))
    go_ret2
    exact ⟨rfl, HB1.out⟩
  | none =>
    have CL : Hid (∀ o : Obj, Calls Tryd.prog 30 #[.agg #[.slice aF nF cFc, .slice aN nN cNc, .slice aL nL cLc]] (w.alloc o) fun e w' => e = .returned (.tuple #[.int .i64 0, .int .i64 0]) ∧ Below (w.alloc o).heap.size (w.alloc o) w') := fun o => clines_any (hcd.on (HB.out o)) hrow ((hl.on (HB.out o)).less (by rw [World.size_alloc]; omega)) hop
    have CR : Hid (∀ W, Below w.heap.size w W → Calls Tryd.prog 31 #[.agg #[.slice aF nF cFc, .slice aN nN cNc, .slice aL nL cLc]] W fun e w' => e = .returned (.tuple #[.int .i64 er, .int .i64 at']) ∧ Below W.heap.size W w') := fun W hW => by
      cases hfl : scan (flK s) (hF s) 0 with
      | some p =>
        have e1 : 12 = er := by unfold fauR at hR; rw [hop, hfl] at hR; exact congrArg Prod.fst hR
        have e2 : p = at' := by unfold fauR at hR; rw [hop, hfl] at hR; exact congrArg Prod.snd hR
        have := roads_any (hcd.on hW) hrow hop hfl
        subst e1 e2
        exact this
      | none =>
        have e1 : 0 = er := by unfold fauR at hR; rw [hop, hfl] at hR; exact congrArg Prod.fst hR
        have e2 : 0 = at' := by unfold fauR at hR; rw [hop, hfl] at hR; exact congrArg Prod.snd hR
        have := roads_any (hcd.on hW) hrow hop hfl
        subst e1 e2
        exact this
    clear hcd hl hop hR hrow
    go_enter Tryd.func17, Tryd.ntmps17
    go_wp2_with (first
      | (go_at_call 30; refine (CL.out _).mono ?_; rintro _ w1 ⟨rfl, hb1⟩; have HB1 := Lib.hid ((HB.out _).trans (hb1.mono (by rw [World.size_alloc]; omega))); have hbx := lb_below (lb_new w _) hb1 (by rw [World.size_alloc]; omega); have c0 := lb_at hbx 0 rfl; have c1 := lb_at hbx 1 rfl; have c2 := lb_at hbx 2 rfl; simp only [List.getElem_toArray, List.getElem_cons_zero, List.getElem_cons_succ] at c0 c1 c2; clear hbx)
      | (go_at_call 31; refine (CR.out _ HB1.out).mono ?_; rintro _ w2 ⟨rfl, hb2⟩))
    go_ret2
    exact ⟨rfl, HB1.out.trans (hb2.mono HB1.out.size)⟩
end Go.Proofs.YtmkdoejpgkgpbaaDoor
