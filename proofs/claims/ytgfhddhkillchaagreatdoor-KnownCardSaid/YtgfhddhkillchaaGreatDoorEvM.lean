import Derived.Test.YtgfhddhkillchaaGreatDoorEvL
set_option linter.unusedVariables false
set_option linter.unusedSimpArgs false
namespace Go.Proofs.YtgfhddhkillchaaGreatDoor
namespace Ev
section
variable {T : Tab} {tm : Tm} {call : Cal} {α β : Type}
theorem loc_load (t : TypeId) (a : Operand) : Loc (oLoad t a T call tm) := loc_brec (loc_atP fun b off => loc_brec (loc_look fun B => by cases B; exact loc_brec (loc_no _) (loc_retC _)) (loc_nrec (loc_ret _) fun m => loc_look fun B => loc_iff (loc_ret _) (loc_no _))) (loc_no _)
theorem loc_two (lo hi : Option Operand) (z : Nat) (f : Nat → Nat → Option Sc) : Loc (two lo hi tm z f) := by
  have hb : ∀ (o : Option Operand) (z : Nat) (g : Nat → M AV), (∀ n, Loc (g n)) → Loc (bound o tm z g) := fun o z g hg => loc_orec (hg z) fun x => loc_atN hg
  exact hb lo 0 _ fun a => hb hi z _ fun b => loc_optm loc_retC
theorem loc_part (t : TypeId) (l : List Sc) (o : Nat) : Loc (partA T t l o) := loc_iff (loc_no _) (loc_iff (loc_ret _) (loc_optm loc_retC))
theorem loc_len (t : TypeId) (x : Operand) : Loc (oLen t x T call tm) := by
  have hA : ∀ t, Loc (lenA T t) := fun t => loc_iff (loc_retC _) (loc_no _)
  show Loc (@AV.rec (fun _ => M AV) (lenC T t) (fun _ => lenA T t) (fun _ => no 72) (no 72) (evo x tm))
  cases evo x tm with
  | c y => exact loc_iff (loc_scL (fun _ _ _ _ => loc_retC _) (loc_retC _)) (loc_iff (loc_scS fun _ => loc_retC _) (loc_iff (hA _) (loc_iff (hA _) (loc_no _))))
  | ag l => exact hA _
  | tp l => exact loc_no _
  | u => exact loc_no _
theorem loc_append (d x : Operand) (lim sz : Nat) : Loc (oAppend d x lim sz tm) := loc_avC fun a => loc_avC fun y => loc_rowOf fun n l => loc_nrec
  (by cases a <;> first | exact loc_retC _ | exact loc_no _)
  (fun m => by
    cases a with
    | sl b off len z => exact loc_iff (loc_iff (loc_look fun B => loc_iff (loc_iff (loc_iff (loc_put (loc_iff (loc_storeF fun t => loc_fresh fun _ => loc_retC _) (loc_newBlk fun _ => loc_retC _))) (loc_no _)) (loc_no _)) (loc_no _)) (loc_no _)) (loc_no _)
    | sn => exact loc_iff (loc_newBlk fun _ => loc_retC _) (loc_no _)
    | _ => exact loc_no _)
theorem loc_copy (d x : Operand) (sz : Nat) : Loc (oCopy d x sz tm) := loc_avC fun a => loc_avC fun y => loc_rowOf fun n l => loc_scL (fun b off len z => loc_iff (loc_nrec (loc_retC _) fun m => loc_look fun B => loc_iff (loc_storeF fun t => loc_put (loc_retC _)) (loc_no _)) (loc_no _)) (loc_retC _)
theorem loc_op (hc : ∀ f args, Loc (call f args)) (op : Op) : Loc (evOp op T call tm) := by
  cases op with
  | move x => exact loc_ret _
  | assign x => exact loc_ret _
  | pick c a b => exact loc_avC fun _ => loc_scB fun _ => loc_brec (loc_ret _) (loc_ret _)
  | alloc t => exact loc_optm fun _ => loc_newBlk fun _ => loc_retC _
  | box t x => exact loc_optm fun _ => loc_newBlk fun _ => loc_retC _
  | build t ps => exact loc_optm fun _ => loc_iff (loc_optm fun _ => loc_optm fun _ => loc_ret _) (loc_iff (loc_iff (loc_optm fun _ => loc_ret _) (loc_no _)) (loc_no _))
  | buildSlice t n ps => exact loc_iff (loc_optm fun _ => loc_iff (loc_optm fun _ => loc_newBlk fun _ => loc_retC _) (loc_no _)) (loc_no _)
  | load t a => exact loc_load (call := call) t a
  | store t a x => exact loc_brec (loc_atP fun b off => loc_optm fun l => loc_brec (loc_no _) (loc_nrec (loc_ret _) fun _ => loc_look fun B => by cases B; exact loc_brec (loc_no _) (loc_storeF fun t => loc_put (loc_ret _)))) (loc_no _)
  | nilCheck x => exact loc_atP fun _ _ => loc_retC _
  | binOp op t x y t' => exact loc_avC fun _ => loc_avC fun _ => loc_orec (loc_optm loc_retC) loc_retC
  | unOp op t x => exact loc_avC fun _ => loc_orec (loc_optm loc_retC) loc_retC
  | convert a b x => exact loc_avC fun v => loc_iff (loc_no _) (loc_iff (loc_scI fun _ _ => loc_optm loc_retC) (loc_iff (loc_iff (loc_iff (loc_scL (fun _ _ _ _ => loc_rowOf fun _ _ => loc_optm fun _ => loc_retC _) (loc_retC _)) (loc_no _)) (loc_no _)) (loc_iff (loc_iff (loc_iff (loc_scL (fun _ _ _ _ => loc_look fun B => loc_iff (loc_put (loc_retC _)) (loc_no _)) (loc_no _)) (loc_no _)) (loc_no _)) (loc_no _))))
  | makeSlice t l c => exact loc_atN fun _ => loc_atN fun _ => loc_iff (loc_iff (loc_iff (loc_optm fun _ => loc_newBlk fun _ => loc_retC _) (loc_no _)) (loc_no _)) (loc_no _)
  | slice t x lo hi mx => exact loc_orec (loc_avC fun v => loc_iff (loc_scS fun _ => loc_two _ _ _ _) (loc_iff (loc_scL (fun _ _ _ _ => loc_iff (loc_iff (loc_two _ _ _ _) (loc_no _)) (loc_no _)) (loc_no _)) (loc_no _))) fun _ => loc_no _
  | fieldAddr t x f => exact loc_atP fun _ _ => loc_orec (loc_no _) fun _ => loc_retC _
  | field t x f => exact loc_avA fun _ => loc_optm fun _ => loc_part _ _ _
  | indexAddr t x i => exact loc_atN fun _ => loc_iff (loc_avC fun _ => loc_scL (fun _ _ _ _ => loc_iff (loc_no _) (loc_iff (loc_iff (loc_retC _) (loc_no _)) (loc_no _))) (loc_no _)) (loc_iff (loc_iff (loc_atP fun _ _ => loc_iff (loc_no _) (loc_retC _)) (loc_no _)) (loc_no _))
  | index t x i => exact loc_atN fun _ => loc_iff (loc_avC fun _ => loc_scS fun _ => loc_optm fun _ => loc_retC _) (loc_iff (loc_iff (loc_no _) (loc_avA fun _ => loc_part _ _ _)) (loc_no _))
  | extract x k =>
    show Loc (@AV.rec (fun _ => M AV) (fun _ => no 67) (fun _ => no 67) (fun l => optm 67 (nth l k) fun c => ret (tcV c)) (no 67) (evo x tm))
    cases evo x tm with
    | tp l => exact loc_optm fun _ => loc_ret _
    | _ => exact loc_no _
  | call c =>
    obtain ⟨callee, args, tys⟩ := c
    cases callee with
    | builtin bt =>
      show Loc (oBi bt args.toList tys.toList T call tm)
      cases args.toList with
      | nil => cases tys.toList <;> exact loc_no _
      | cons x l =>
        cases l with
        | nil =>
          cases tys.toList with
          | nil => exact loc_no _
          | cons t lt =>
            cases lt with
            | nil =>
              cases bt with
              | len => exact loc_len (call := call) t x
              | _ => exact loc_no _
            | cons t2 lt => cases lt <;> exact loc_no _
        | cons x2 l =>
          cases l with
          | nil =>
            cases tys.toList with
            | nil => exact loc_no _
            | cons ts lt =>
              cases lt with
              | nil => exact loc_no _
              | cons tx lt =>
                cases lt with
                | nil =>
                  cases bt with
                  | append => exact loc_iff (loc_iff (loc_iff (loc_append _ _ _ _) (loc_no _)) (loc_no _)) (loc_no _)
                  | copy => exact loc_iff (loc_iff (loc_copy _ _ _) (loc_no _)) (loc_no _)
                  | _ => exact loc_no _
                | cons t3 lt => exact loc_no _
          | cons x3 l => cases tys.toList <;> exact loc_no _
    | invoke r m => exact loc_no _
    | value f =>
      cases f with
      | func f => exact hc f _
      | _ => exact loc_no _
  | _ => exact loc_no _
/-! temps -/
noncomputable def tputP (kp : Nat) (dst : Option Tmp) (v : AV) (tm : Tm) : Tm := tput kp dst v id tm
theorem tput_K (kp : Nat) (dst : Option Tmp) (v : AV) (K : Tm → α) (tm : Tm) : tput kp dst v K tm = K (tputP kp dst v tm) := by
  cases dst with
  | none => rfl
  | some d =>
    cases tm with
    | mk l vs =>
      show @Nat.rec (fun _ => α) (K ⟨.cs d v l, vs⟩) (fun _ _ => set3 d v vs fun vs => K ⟨.cs d v l, vs⟩) (kept kp d) = K (@Nat.rec (fun _ => Tm) ⟨.cs d v l, vs⟩ (fun _ _ => set3 d v vs fun vs => ⟨.cs d v l, vs⟩) (kept kp d))
      cases kept kp d with
      | zero => rfl
      | succ k =>
        show (set3 d v vs fun vs => K ⟨.cs d v l, vs⟩) = K (set3 d v vs fun vs => ⟨.cs d v l, vs⟩)
        rw [l3.1, l3.1 (K := fun vs => (⟨.cs d v l, vs⟩ : Tm))]
theorem tput_ret (kp : Nat) (dst : Option Tmp) (v : AV) (tm : Tm) : tput kp dst v okTm tm = ret (tputP kp dst v tm) := by
  rw [tput_K]; rfl
/-! steps -/
theorem runO_eq (dst : Option Tmp) (op : Op) (kp : Nat) (ops : List Oper) : runO dst op T call kp ops tm = bnd (evOp op T call tm) fun v => ret (tputP kp dst v tm) := by
  funext s
  show @R.rec AV (fun _ => R Tm) (fun v s => tput kp dst v okTm tm s) R.no (evOp op T call tm s) = @R.rec AV (fun _ => R Tm) (fun v s => ret (tputP kp dst v tm) s) R.no (evOp op T call tm s)
  simp only [tput_ret]
theorem loc_runO (hc : ∀ f args, Loc (call f args)) (dst : Option Tmp) (op : Op) (kp : Nat) (ops : List Oper) : Loc (runO dst op T call kp ops tm) := by
  rw [runO_eq]
  exact loc_bnd (loc_op hc op) fun v => loc_ret _
theorem skipO_eq (dst : Option Tmp) (kp : Nat) (ops : List Oper) : skipO dst T call kp ops tm = ret (tputP kp dst und tm) := tput_ret kp dst und tm
theorem loc_stepO (hc : ∀ f args, Loc (call f args)) (o : Oper) (kp : Nat) (ops : List Oper) : Loc (stepO o T call kp ops tm) := by
  cases o with
  | mk dst op type pos after guard =>
    cases guard with
    | none => exact loc_runO hc dst op kp ops
    | some q =>
      have hs : Loc (skipO dst T call kp ops tm) := by rw [skipO_eq]; exact loc_ret _
      exact loc_orec (loc_no _) fun d => loc_iff (loc_no _) (loc_orec hs fun b => loc_iff (loc_runO hc dst op kp ops) hs)
theorem loc_stepsL (hc : ∀ f args, Loc (call f args)) (kp : Nat) (ops : List Oper) : ∀ (l : List Oper) (tm : Tm), Loc (stepsL T call kp ops l tm)
  | [], tm => loc_ret tm
  | o :: l, tm => loc_bnd (f := stepsL T call kp ops l) (loc_stepO hc o kp ops) (loc_stepsL hc kp ops l)
theorem oneD_eq (again : DF) (bf : List Nat) (j : Nat) (lg : List Lg) (rd wr nx : Nat) (tm : Tm) (s' : St) : oneD again bf j lg rd wr nx tm s' = iff (apart (headOr bf 0) s'.rd s'.wr lg) (again bf.tail (j + 1) (⟨j, s'.rd, s'.wr ||| news nx s'.nx⟩ :: lg) tm ⟨s'.h, s'.nx, rd ||| s'.rd, wr ||| s'.wr⟩) (.no (1000 + j)) := by
  cases s' with
  | mk h nx' rd' wr' =>
    unfold oneD
    simp only [forceN_eq]
    rfl
theorem stepD_ok {kp : Nat} {ops : List Oper} {o : Oper} {again : DF} {bf : List Nat} {j : Nat} {lg : List Lg} {s s' : St} {tm' : Tm} (h : stepD T call kp ops o again bf j lg tm s = .ok tm' s') : ∃ tm1 s1, stepO o T call kp ops tm ⟨s.h, s.nx, 0, 0⟩ = .ok tm1 s1 ∧ apart (headOr bf 0) s1.rd s1.wr lg = true ∧ again bf.tail (j + 1) (⟨j, s1.rd, s1.wr ||| news s.nx s1.nx⟩ :: lg) tm1 ⟨s1.h, s1.nx, s.rd ||| s1.rd, s.wr ||| s1.wr⟩ = .ok tm' s' := by
  cases s with
  | mk hh nx rd wr =>
    obtain ⟨tm1, s1, h1, h2⟩ := rrec_ok (f := oneD again bf j lg rd wr nx) h
    rw [oneD_eq] at h2
    cases ha : apart (headOr bf 0) s1.rd s1.wr lg with
    | false => rw [ha] at h2; cases h2
    | true => rw [ha] at h2; exact ⟨tm1, s1, h1, ha, h2⟩
theorem stepD_run {kp : Nat} {ops : List Oper} {o : Oper} {again : DF} {bf : List Nat} {j : Nat} {lg : List Lg} {s s1 : St} {tm1 : Tm} (h1 : stepO o T call kp ops tm ⟨s.h, s.nx, 0, 0⟩ = .ok tm1 s1) (h2 : apart (headOr bf 0) s1.rd s1.wr lg = true) : stepD T call kp ops o again bf j lg tm s = again bf.tail (j + 1) (⟨j, s1.rd, s1.wr ||| news s.nx s1.nx⟩ :: lg) tm1 ⟨s1.h, s1.nx, s.rd ||| s1.rd, s.wr ||| s1.wr⟩ := by
  cases s with
  | mk hh nx rd wr =>
    show @R.rec Tm (fun _ => R Tm) (oneD again bf j lg rd wr nx) R.no (stepO o T call kp ops tm ⟨hh, nx, 0, 0⟩) = _
    rw [h1]
    show oneD again bf j lg rd wr nx tm1 s1 = _
    rw [oneD_eq, h2]
    rfl
/-- with no log behind it, and the log told -/
def listen (m : M α) : M (α × Nat × Nat × Nat × Nat) := fun s => match m ⟨s.h, s.nx, 0, 0⟩ with
  | .ok a u => .ok (a, u.rd, u.wr, s.nx, u.nx) ⟨u.h, u.nx, s.rd ||| u.rd, s.wr ||| u.wr⟩
  | .no n => .no n
theorem loc_listen {m : M α} (hm : Loc m) : Loc (listen m) := fun s a s' h hs => by
  unfold listen at h
  cases h1 : m ⟨s.h, s.nx, 0, 0⟩ with
  | no n => rw [h1] at h; cases h
  | ok b u =>
    rw [h1] at h
    cases h
    obtain ⟨dr, dw, n1, m1, b1, r1, w1, k1, f1⟩ := hm _ _ _ h1 hs
    rw [Nat.zero_or] at r1 w1
    refine ⟨dr, dw, n1, m1, b1, by rw [r1], by rw [w1], k1, fun t ht hg => ?_⟩
    obtain ⟨t', e1, e2, e3, e4, e5⟩ := f1 ⟨t.h, t.nx, 0, 0⟩ ht hg
    rw [Nat.zero_or] at e3 e4
    exact ⟨⟨t'.h, t'.nx, t.rd ||| t'.rd, t.wr ||| t'.wr⟩, by unfold listen; rw [e1]; simp only [e2, e3, e4, r1, w1, ht], e2, by rw [e3], by rw [e4], e5⟩
theorem stepD_eq (o : Oper) (kp : Nat) (ops : List Oper) (again : DF) (bf : List Nat) (j : Nat) (lg : List Lg) (tm : Tm) : stepD T call kp ops o again bf j lg tm = bnd (listen (stepO o T call kp ops tm)) fun r => iff (apart (headOr bf 0) r.2.1 r.2.2.1 lg) (again bf.tail (j + 1) (⟨j, r.2.1, r.2.2.1 ||| news r.2.2.2.1 r.2.2.2.2⟩ :: lg) r.1) (no (1000 + j)) := by
  funext s
  cases s with
  | mk hh nx rd wr =>
    show @R.rec Tm (fun _ => R Tm) (oneD again bf j lg rd wr nx) R.no (stepO o T call kp ops tm ⟨hh, nx, 0, 0⟩) = _
    unfold bnd listen
    simp only
    cases stepO o T call kp ops tm ⟨hh, nx, 0, 0⟩ with
    | no n => rfl
    | ok tm1 s1 =>
      show oneD again bf j lg rd wr nx tm1 s1 = _
      rw [oneD_eq]
      simp only
      cases apart (headOr bf 0) s1.rd s1.wr lg <;> rfl
theorem loc_stepsD (hc : ∀ f args, Loc (call f args)) (kp : Nat) (ops : List Oper) : ∀ (l : List Oper) (bf : List Nat) (j : Nat) (lg : List Lg) (tm : Tm), Loc (stepsD T call kp ops l bf j lg tm)
  | [], bf, j, lg, tm => loc_ret tm
  | o :: l, bf, j, lg, tm => by
    show Loc (stepD T call kp ops o (stepsD T call kp ops l) bf j lg tm)
    rw [stepD_eq]
    exact loc_bnd (loc_listen (loc_stepO hc o kp ops)) fun r => loc_iff (loc_stepsD hc kp ops l _ _ _ _) (loc_no _)
theorem forceS_eq (s : St) (f : St → α) : forceS s f = f s := by
  cases s with
  | mk h nx rd wr =>
    show (forceN rd fun rd => forceN wr fun wr => f ⟨h, nx, rd, wr⟩) = _
    rw [forceN_eq, forceN_eq]
theorem cRegion_eq (ops : Array Oper) (dr : Bool) (kp : Nat) : cRegion ops dr T call kp tm = bnd (@Bool.rec (fun _ => M Tm) (stepsL T call kp ops.toList ops.toList (clr tm)) (stepsD T call kp ops.toList ops.toList (aheads ops.toList []) 0 [] (clr tm)) dr) fun tm => ret (.nm tm) := rfl
theorem cSeq_eq (a b : CF) (kp : Nat) : cSeq a b T call kp tm = bnd (a T call kp tm) fun r => onNm r (b T call kp) := rfl
theorem cBlock_eq (id : Nat) (a : CF) (kp : Nat) : cBlock id a T call kp tm = bnd (a T call kp tm) (outOf id) := rfl
theorem loopF_eq (a : Tm → M EX) (n : Nat) (tm : Tm) : loopF a (n + 1) tm = bnd (a tm) fun r => onNm r (loopF a n) := by
  funext s
  show @R.rec EX (fun _ => R EX) (fun r s => forceS s (onNm r (loopF a n))) R.no (a tm s) = _
  simp only [forceS_eq]
  rfl
theorem loc_onNm {r : EX} {f : Tm → M EX} (hf : ∀ tm, Loc (f tm)) : Loc (onNm r f) := by
  cases r with
  | nm tm => exact hf tm
  | ex i tm => exact loc_ret _
  | rt tm => exact loc_ret _
theorem loc_loop {a : Tm → M EX} (ha : ∀ tm, Loc (a tm)) : ∀ (n : Nat) (tm : Tm), Loc (loopF a n tm)
  | 0, tm => loc_no _
  | n + 1, tm => by rw [loopF_eq]; exact loc_bnd (ha tm) fun r => loc_onNm (loc_loop ha n)
theorem loc_code (hc : ∀ f args, Loc (call f args)) (kp : Nat) (c : Code) : ∀ tm, Loc (evC c T call kp tm) := by
  induction c with
  | skip => intro tm; exact loc_ret _
  | region id ops dr =>
    intro tm
    show Loc (cRegion ops dr T call kp tm)
    rw [cRegion_eq]
    refine loc_bnd (loc_brec (loc_stepsL hc kp _ _ _) (loc_stepsD hc kp _ _ _ _ _ _)) fun tm => loc_ret _
  | seq a b iha ihb => intro tm; exact loc_bnd (iha tm) fun r => loc_onNm ihb
  | cond x a b iha ihb => intro tm; exact loc_avC fun s => loc_scB fun t => loc_brec (ihb tm) (iha tm)
  | block id a ih =>
    intro tm
    refine loc_bnd (ih tm) fun r => ?_
    cases r with
    | nm tm => exact loc_ret _
    | ex i tm => exact loc_brec (loc_ret _) (loc_ret _)
    | rt tm => exact loc_ret _
  | loop a ih => intro tm; exact loc_loop ih 5000 tm
  | exit id => intro tm; exact loc_ret _
  | ret => intro tm; exact loc_ret _
  | _ => intro tm; exact loc_no _
theorem loc_resV (r : ResultVar) (tm : Tm) : Loc (resV r T tm) := by
  cases r with
  | tmp t => exact loc_ret _
  | cell a t => exact loc_load (call := fun _ _ => no 93) t _
theorem loc_resVs (tm : Tm) : ∀ l, Loc (resVs T tm l)
  | [] => loc_ret _
  | r :: l => loc_bnd (loc_resV r tm) fun v => loc_optm fun c => loc_bnd (loc_resVs tm l) fun vs => loc_ret _
theorem loc_results (rs : List ResultVar) (tm : Tm) : Loc (results rs T tm) := by
  unfold results
  split
  · exact loc_resV _ _
  · exact loc_bnd (loc_resVs tm _) fun l => loc_ret _
theorem setAll_K : ∀ (l : List AV) (i : Nat) (t : Vs) (K : Vs → α), setAll l i t K = K (setAll l i t id)
  | [], i, t, K => rfl
  | v :: l, i, t, K => by
    show (set3 i v t fun t => setAll l (i + 1) t K) = K (set3 i v t fun t => setAll l (i + 1) t id)
    rw [l3.1, setAll_K l, l3.1 (K := fun t => setAll l (i + 1) t id)]
theorem bodyF_eq (args : List AV) (kp : Nat) (fn : Func) : bodyF T call args kp fn = optm 95 fn.body fun c => iff (keeps kp args.length) (iff (Nat.ble args.length fn.ntmps) (iff (Nat.ble fn.ntmps 512) (bnd (evC c T call kp ⟨.nl, setAll args 0 (full3 .u) id⟩) (endF T fn.results.toList)) (no 98)) (no 98)) (no 99) := by
  unfold bodyF
  congr 1
  funext c
  congr 3
  rw [setAll_K]
  rfl
theorem loc_body (hc : ∀ f args, Loc (call f args)) (args : List AV) (kp : Nat) (fn : Func) : Loc (bodyF T call args kp fn) := by
  rw [bodyF_eq]
  refine loc_optm fun c => loc_iff (loc_iff (loc_iff (loc_bnd (loc_code hc kp c _) fun r => ?_) (loc_no _)) (loc_no _)) (loc_no _)
  cases r with
  | nm tm => exact loc_results _ _
  | ex i tm => exact loc_no _
  | rt tm => exact loc_results _ _
theorem loc_fn : ∀ (n f : Nat) (args : List AV), Loc (evF T n f args)
  | 0, f, args => loc_no _
  | n + 1, f, args => loc_orec (loc_optm fun fn => loc_body (loc_fn n) args _ fn) fun v => loc_ret _
end
end Ev
end Go.Proofs.YtgfhddhkillchaaGreatDoor
