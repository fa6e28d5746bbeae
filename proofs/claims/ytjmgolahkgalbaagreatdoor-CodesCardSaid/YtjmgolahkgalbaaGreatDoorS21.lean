import Derived.Test.YtjmgolahkgalbaaGreatDoorS18
set_option linter.unusedVariables false
set_option linter.unusedSimpArgs false
set_option maxHeartbeats 20000000
namespace Go.Proofs.YtjmgolahkgalbaaGreatDoor
namespace Ko
open Go.RowKit Li
variable {s : ByteArray} {w : World}
def cb (b : HB) : CB := ⟨b.use,b.fn,b.fs⟩
def aB (bs : List HB) : List CB := bs.map cb
theorem jbk {bs : List HB} {i : Nat} {b : HB} (h : bs[i]? = some b) : (aB bs)[i]? = some (cb b) := by unfold aB;rw [List.getElem?_map,h];rfl
theorem jdH {bs : List HB} {i : Nat} {c : CB} (h : (aB bs)[i]? = some c) : ∃ b,bs[i]? = some b /\ c = cb b := by
 unfold aB at h;rw [List.getElem?_map] at h
 cases hb : bs[i]? with
 | none => rw [hb] at h;cases h
 | some b => rw [hb] at h;cases h;exact ⟨b,rfl,rfl⟩
theorem jam {bs : List HB} {i : Nat} {b : HB} (h : bs[i]? = some b) : bkC (aB bs) i = (b.fs,b.fn) := by unfold bkC;rw [jbk h];rfl
theorem jl9 {bs : List HB} {i : Nat} (h : bs.length <= i) : bkC (aB bs) i = ([],-1) := by unfold bkC;rw [List.getElem?_eq_none (by unfold aB;simpa using h)]
def jQ (p : List HB × List Nat) : V -> List HB × List Nat
 | .b i => match p.1[i]? with
   | some b => if b.rc then p else (p.1.set i { b with rc := true },p.2 ++ [i])
   | none => p
 | .n _ => p
theorem jhR {p : List HB × List Nat} {i : Nat} (h : p.1[i]? = none) : jQ p (.b i) = p := by unfold jQ;simp only [h]
theorem jep {p : List HB × List Nat} {i : Nat} {b : HB} (h : p.1[i]? = some b) (hr : b.rc = true) : jQ p (.b i) = p := by unfold jQ;simp only [h,hr,if_true]
theorem jeq {p : List HB × List Nat} {i : Nat} {b : HB} (h : p.1[i]? = some b) (hr : b.rc = false) : jQ p (.b i) = (p.1.set i { b with rc := true },p.2 ++ [i]) := by unfold jQ;simp only [h,hr,Bool.false_eq_true,if_false]
theorem jbB (p : List HB × List Nat) (i : Nat) : jQ p (.b i) = p /\ (∀ b,p.1[i]? = some b -> b.rc = true) \/ ∃ b,p.1[i]? = some b /\ b.rc = false /\ jQ p (.b i) = (p.1.set i { b with rc := true },p.2 ++ [i]) := by
 cases hb : p.1[i]? with
 | none => exact .inl ⟨jhR hb,fun b h => by cases h⟩
 | some b =>
   cases hr : b.rc with
   | true => exact .inl ⟨jep hb hr,fun c h => by cases h;exact hr⟩
   | false => exact .inr ⟨b,rfl,hr,jeq hb hr⟩
def un (bs : List HB) : Nat := (bs.map fun b => if b.rc then 0 else 1).sum
structure Mk (bs0 : List HB) (fr : List Fm) (v : V) (bs : List HB) (todo : List Nat) (ex : Option (Nat × Nat)) : Prop where
 len : bs.length = bs0.length
 same : ∀ (i : Nat) (b : HB),bs[i]? = some b -> ∃ b0 : HB,bs0[i]? = some b0 /\ b = { b0 with rc := b.rc }
 sub : ∀ (i : Nat) (b : HB),bs[i]? = some b -> b.rc = true -> Rch (bkC (aB bs0)) fr v i
 tod : ∀ i ∈ todo,∃ b : HB,bs[i]? = some b /\ b.rc = true
 clo : ∀ (i : Nat) (b : HB),bs[i]? = some b -> b.rc = true -> i ∈ todo \/ ∀ (k j : Nat),b.fs[k]? = some (.b j) -> (∀ q,ex = some (i,q) -> k < q) -> ∀ c : HB,bs[j]? = some c -> c.rc = true
theorem jf1 {bs : List HB} {i : Nat} {b : HB} (h : bs[i]? = some b) (hr : b.rc = false) : un (bs.set i { b with rc := true }) + 1 = un bs := by
 unfold un
 induction bs generalizing i with
 | nil => simp at h
 | cons a l ih =>
   cases i with
   | zero => simp at h;subst h;simp [hr];omega
   | succ i =>
     simp only [List.getElem?_cons_succ] at h
     have := ih h
     simp only [List.set_cons_succ,List.map_cons,List.sum_cons]
     omega
theorem jc7 (p : List HB × List Nat) (v : V) : 2 * un (jQ p v).1 + (jQ p v).2.length <= 2 * un p.1 + p.2.length := by
 cases v with
 | n z => exact jN
 | b i =>
   rcases jbB p i with ⟨e,_⟩ | ⟨b,hb,hr,e⟩
   ·rw [e];exact jN
   ·rw [e]
    have := jf1 hb hr
    simp only [List.length_append,List.length_singleton]
    omega
theorem jbA (p : List HB × List Nat) (v : V) : (jQ p v).1.length = p.1.length := by
 cases v with
 | n z => rfl
 | b i =>
   rcases jbB p i with ⟨e,_⟩ | ⟨b,hb,hr,e⟩
   ·rw [e]
   ·rw [e];simp
theorem J6 (p : List HB × List Nat) (v : V) {j : Nat} {c : HB} (h : p.1[j]? = some c) : ∃ c' : HB,(jQ p v).1[j]? = some c' /\ c' = { c with rc := c'.rc } /\ (c.rc = true -> c'.rc = true) /\ (v = .b j -> c'.rc = true) /\ (c'.rc = true -> c.rc = true \/ (v = .b j /\ j ∈ (jQ p v).2)) := by
 cases v with
 | n z => exact ⟨c,h,rfl,fun h => h,(by intro h;cases h),fun h => .inl h⟩
 | b i =>
   rcases jbB p i with ⟨e,hr⟩ | ⟨b,hb,hr,e⟩
   ·rw [e]
    exact ⟨c,h,rfl,fun h => h,(by intro e2;cases e2;exact hr c h),fun h => .inl h⟩
   ·rw [e]
    by_cases e : i = j
    ·subst e
     rw [h] at hb;cases hb
     have hl : i < p.1.length := (jG h).1
     exact ⟨{ c with rc := true },by simp [hl],rfl,fun _ => rfl,fun _ => rfl,fun _ => .inr ⟨rfl,by simp⟩⟩
    ·refine ⟨c,(List.getElem?_set_ne e).trans h,rfl,fun h => h,?_,fun h => .inl h⟩
     intro e2;cases e2;exact absurd rfl e
theorem jhS (p : List HB × List Nat) (v : V) {j : Nat} (h : j ∈ p.2) : j ∈ (jQ p v).2 := by
 cases v with
 | n z => exact h
 | b i =>
   rcases jbB p i with ⟨e,_⟩ | ⟨b,hb,hr,e⟩
   ·rw [e];exact h
   ·rw [e];simp [h]
theorem jhQ (p : List HB × List Nat) (v : V) {j : Nat} (h : j ∈ (jQ p v).2) : j ∈ p.2 \/ (v = .b j /\ j < p.1.length) := by
 cases v with
 | n z => exact .inl h
 | b i =>
   rcases jbB p i with ⟨e,_⟩ | ⟨b,hb,hr,e⟩
   ·rw [e] at h;exact .inl h
   ·rw [e] at h
    simp at h
    rcases h with h | h
    ·exact .inl h
    ·subst h;exact .inr ⟨rfl,(jG hb).1⟩
theorem Mk.reach {bs0 : List HB} {fr : List Fm} {v : V} {bs : List HB} {todo : List Nat} {ex : Option (Nat × Nat)} (h : Mk bs0 fr v bs todo ex) {u : V} (hu : ∀ i,u = .b i -> Rch (bkC (aB bs0)) fr v i) : Mk bs0 fr v (jQ (bs,todo) u).1 (jQ (bs,todo) u).2 ex := by
 have back : ∀ {i b},(jQ (bs,todo) u).1[i]? = some b -> ∃ c,bs[i]? = some c := fun {i b} hb => by
  have hl : i < bs.length := by have := (jG hb).1;rw [jbA] at this;exact this
  exact ⟨_,List.getElem?_eq_getElem hl⟩
 refine ⟨by rw [jbA];exact h.len,fun i b hb => ?_,fun i b hb hr => ?_,fun i hi => ?_,fun i b hb hr => ?_⟩
 ·obtain ⟨c,hc⟩ := back hb
  obtain ⟨c',h1,h2,_⟩ := J6 (bs,todo) u hc
  rw [hb] at h1;cases h1
  obtain ⟨b0,h3,h4⟩ := h.same i c hc
  exact ⟨b0,h3,by rw [h2,h4]⟩
 ·obtain ⟨c,hc⟩ := back hb
  obtain ⟨c',h1,h2,_,_,h5⟩ := J6 (bs,todo) u hc
  rw [hb] at h1;cases h1
  rcases h5 hr with h5 | ⟨h5,_⟩
  ·exact h.sub i c hc h5
  ·exact hu i h5
 ·rcases jhQ (bs,todo) u hi with h1 | ⟨h1,h2⟩
  ·obtain ⟨b,hb,hr⟩ := h.tod i h1
   obtain ⟨c',h3,_,h4,_⟩ := J6 (bs,todo) u hb
   exact ⟨c',h3,h4 hr⟩
  ·obtain ⟨c',h3,_,_,h4,_⟩ := J6 (bs,todo) u (List.getElem?_eq_getElem h2)
   exact ⟨c',h3,h4 h1⟩
 ·obtain ⟨c,hc⟩ := back hb
  obtain ⟨c',h1,h2,_,_,h5⟩ := J6 (bs,todo) u hc
  rw [hb] at h1;cases h1
  rcases h5 hr with h5 | ⟨_,h5⟩
  ·rcases h.clo i c hc h5 with h6 | h6
   ·exact .inl (jhS _ _ h6)
   ·refine .inr fun k j hk hex d hd => ?_
    obtain ⟨e,he⟩ := back hd
    obtain ⟨e',h7,_,h8,_⟩ := J6 (bs,todo) u he
    rw [hd] at h7;cases h7
    have : c.fs[k]? = some (.b j) := by rw [h2] at hk;exact hk
    exact h8 (h6 k j this hex e he)
  ·exact .inl h5
theorem Mk.done {bs0 : List HB} {fr : List Fm} {v : V} {bs : List HB} (h : Mk bs0 fr v bs [] none) (h1 : ∀ i,v = .b i -> ∀ b,bs[i]? = some b -> b.rc = true) (h2 : ∀ f ∈ fr,∀ i,.b i ∈ f.sl -> ∀ b,bs[i]? = some b -> b.rc = true) {i : Nat} (hi : Rch (bkC (aB bs0)) fr v i) : ∀ b,bs[i]? = some b -> b.rc = true := by
 induction hi with
 | more e => exact h1 _ e
 | slot hf hm => exact h2 _ hf _ hm
 | @kid i j hr hm ih =>
   intro b hb
   by_cases hl : i < bs.length
   ·obtain ⟨c,hc⟩ : ∃ c,bs[i]? = some c := ⟨_,List.getElem?_eq_getElem hl⟩
    obtain ⟨b0,h3,h4⟩ := h.same i c hc
    rw [jam h3] at hm
    have hfs : b0.fs = c.fs := by rw [h4]
    rw [hfs] at hm
    obtain ⟨k,hk⟩ := List.getElem?_of_mem hm
    rcases h.clo i c hc (ih c hc) with h5 | h5
    ·cases h5
    ·exact h5 k j hk (by intro q hq;cases hq) b hb
   ·rw [jl9 (by rw [<- h.len];omega)] at hm
    cases hm
def hb0 : HB := ⟨false,0,[],0,false,.slice none 0 0⟩
def gv (b : HB) : Bool := b.use && !b.rc
def swp (b : HB) : HB := if gv b then hb0 else { b with rc := false }
theorem jlE {bs0 : List HB} {fr : List Fm} {v : V} {bs : List HB} (h : Mk bs0 fr v bs [] none) (h1 : ∀ i,v = .b i -> ∀ b,bs[i]? = some b -> b.rc = true) (h2 : ∀ f ∈ fr,∀ i,.b i ∈ f.sl -> ∀ b,bs[i]? = some b -> b.rc = true) : ja2 (aB bs0) fr v (aB (bs.map swp)) := by
 refine ⟨by unfold aB;simp [h.len],fun i b hb hu hr => ?_,fun i b hb hd => ?_⟩
 ·obtain ⟨b0,h3,rfl⟩ := jdH hb
  have hl : i < bs.length := by rw [h.len];exact (jG h3).1
  obtain ⟨c,hc⟩ : ∃ c,bs[i]? = some c := ⟨_,List.getElem?_eq_getElem hl⟩
  obtain ⟨b0',h4,h5⟩ := h.same i c hc
  rw [h3] at h4;cases h4
  have hm := h.done h1 h2 hr c hc
  rw [jbk (bs := bs.map swp) (b := swp c) (by rw [List.getElem?_map,hc];rfl)]
  unfold swp gv
  rw [hm]
  simp only [Bool.not_true,Bool.and_false,Bool.false_eq_true,if_false]
  rw [h5];rfl
 ·obtain ⟨b0,h3,rfl⟩ := jdH hb
  have hl : i < bs.length := by rw [h.len];exact (jG h3).1
  obtain ⟨c,hc⟩ : ∃ c,bs[i]? = some c := ⟨_,List.getElem?_eq_getElem hl⟩
  obtain ⟨b0',h4,h5⟩ := h.same i c hc
  rw [h3] at h4;cases h4
  refine ⟨_,jbk (bs := bs.map swp) (b := swp c) (by rw [List.getElem?_map,hc];rfl),?_⟩
  unfold swp gv
  split
  ·rfl
  ·rename_i hg
   show c.use = false
   rcases hd with hd | hd
   ·rw [h5];exact hd
   ·have : c.rc = false := by
     cases hr : c.rc with
     | false => rfl
     | true => exact absurd (h.sub i c hc hr) hd
    rw [this] at hg
    simpa using hg
def hw (b : HB) : Nat := if b.use then b.fs.length + 1 else 0
theorem jfN (bs : List HB) : jJ (aB bs) = (bs.map hw).sum := by
 unfold jJ aB hw
 rw [List.map_map];rfl
structure DX where
 q : Nat
 words : Nat
 depth : Nat
 vin : Value
 vbk : Value
 vfr : Value
 vrg : Value
 pc : Nat
 fuel : Nat
 used : Nat
 err : Nat
 pos : Nat
 val : Int
 vout : Value
 steps : Nat
 read : Nat
 gcs : Nat
def macA (x : DX) : Array Value := #[.pointer (some ⟨x.q,0,none⟩),.int .i64 x.words,.int .i64 x.depth,x.vin,x.vbk,x.vfr,x.vrg,.int .i64 x.pc,.int .i64 x.fuel,.int .i64 x.used,.int .i64 x.err,.int .i64 x.pos,.int .i64 x.val,x.vout,.int .i64 x.steps,.int .i64 x.read,.int .i64 x.gcs,.int .i64 0]
def MB (w : World) (p : Nat) (x : DX) : Prop := w.heap[p]? = some (.cells (macA x) 55 (0,0))
structure GX where
 fs : List V
 fn : Int
 b : Nat
 v : Value
structure HX where
 back : Nat
 sl : List V
 b : Nat
 v : Value
structure Dt where
 x : DX
 fs : List HX
 ds : List GX
 regs : List V
 out : List Int
 ins : List Int
 vF : Value
 vN : Value
 vL : Value
def pt (b : Nat) : Value := .pointer (some ⟨b,0,none⟩)
def fsO (f : HX) : Obj := .cells #[f.v,.int .i64 f.back] 91 (0,0)
def bsO (b : GX) : Obj := .cells #[b.v,.int .i64 b.fn] 101 (0,0)
structure BO (w : World) (κ : Kp) (t : Tg) (b : Nat) (o : Obj) : Prop where
 blk : w.heap[b]? = some o
 tag : κ b = some t
theorem BO.keep {S : Tg -> Prop} {w w' : World} {κ κ' : Kp} {t : Tg} {b : Nat} {o : Obj} (h : BO w κ t b o) (hf : Fr S κ κ' w w') (hn : ¬ S t) : BO w' κ' t b o :=
 ⟨(hf.rest b (jb h.blk) (fun t' ht => by rw [h.tag] at ht;cases ht;exact hn)).trans h.blk,by rw [hf.old b (jb h.blk)];exact h.tag⟩
structure DW (s : ByteArray) (w : World) (κ : Kp) (Y : Dt) : Prop where
 rgs : TR w κ (17,0) 89 2 Y.x.vrg Y.regs.length (jv Y.regs)
 frs : TR w κ (11,0) 87 1 Y.x.vfr Y.fs.length (Y.fs.map fun f => pt f.b)
 fst : ∀ i f,Y.fs[i]? = some f -> BO w κ (12,i) f.b (fsO f)
 sls : ∀ i f,Y.fs[i]? = some f -> TR w κ (16,i) 89 2 f.v f.sl.length (jv f.sl)
 bks : TR w κ (13,0) 102 1 Y.x.vbk Y.ds.length (Y.ds.map fun b => pt b.b)
 bst : ∀ i b,Y.ds[i]? = some b -> BO w κ (14,i) b.b (bsO b)
 vls : ∀ i b,Y.ds[i]? = some b -> TR w κ (15,i) 89 2 b.v b.fs.length (jv b.fs)
 out : TR w κ (19,0) 3 1 Y.x.vout Y.out.length (iV Y.out)
 ins : TR w κ (18,0) 3 1 Y.x.vin Y.ins.length (iV Y.ins)
 prg : BO w κ (20,0) Y.x.q (prB Y.vF Y.vN Y.vL)
 cF : TR w κ (20,0) 104 5 Y.vF (hF s) (ji (dF s (hF s)) (hF s))
 cN : TR w κ (20,0) 3 1 Y.vN (hN s) (ji (dN s) (hN s))
 cL : TR w κ (20,0) 60 5 Y.vL (hL s) (ji (dL s) (hL s))
structure DM (s : ByteArray) (w : World) (p : Nat) (κ : Kp) (Y : Dt) : Prop where
 mac : MB w p Y.x
 self : κ p = some (10,0)
 rows : DW s w κ Y
 top : ∀ b,w.heap.size <= b -> κ b = none
variable {κ : Kp} {Y : Dt}
theorem DM.lt {p : Nat} (h : DM s w p κ Y) : p < w.heap.size := jb h.mac
theorem MB.keep {S : Tg -> Prop} {w w' : World} {κ κ' : Kp} {p : Nat} {x : DX} {t : Tg} (h : MB w p x) (hk : κ p = some t) (hf : Fr S κ κ' w w') (hn : ¬ S t) : MB w' p x :=
 (hf.rest p (jb h) (fun t' ht => by rw [hk] at ht;cases ht;exact hn)).trans h
theorem DW.keep {S : Tg -> Prop} {w w' : World} {κ κ' : Kp} (h : DW s w κ Y) (hf : Fr S κ κ' w w') (hn : ∀ k i,11 <= k -> ¬ S (k,i)) : DW s w' κ' Y :=
 ⟨h.rgs.keep hf (hn _ _ (by omega)),h.frs.keep hf (hn _ _ (by omega)),fun i f hi => (h.fst i f hi).keep hf (hn _ _ (by omega)),fun i f hi => (h.sls i f hi).keep hf (hn _ _ (by omega)),h.bks.keep hf (hn _ _ (by omega)),fun i f hi => (h.bst i f hi).keep hf (hn _ _ (by omega)),fun i f hi => (h.vls i f hi).keep hf (hn _ _ (by omega)),
  h.out.keep hf (hn _ _ (by omega)),h.ins.keep hf (hn _ _ (by omega)),h.prg.keep hf (hn _ _ (by omega)),h.cF.keep hf (hn _ _ (by omega)),h.cN.keep hf (hn _ _ (by omega)),h.cL.keep hf (hn _ _ (by omega))⟩
theorem DM.on {w w' : World} {p : Nat} (h : DM s w p κ Y) (hb : Below w.heap.size w w') : DM s w' p κ Y :=
 ⟨jc h.mac hb h.lt,h.self,h.rows.keep (S := fun _ => False) (Fr.of hb) (fun _ _ _ h => h),fun b hl => h.top b (Nat.le_trans hb.size hl)⟩
def DX.vs (x : DX) : Nat × Value × Value × Value × Value × Value := (x.q,x.vin,x.vbk,x.vfr,x.vrg,x.vout)
theorem DW.x {Y : Dt} (h : DW s w κ Y) {x' : DX} (e : x'.vs = Y.x.vs) : DW s w κ { Y with x := x' } := by
 simp only [DX.vs,Prod.mk.injEq] at e
 obtain ⟨e1,e2,e3,e4,e5,e6⟩ := e
 exact ⟨by rw [e5];exact h.rgs,by rw [e4];exact h.frs,h.fst,h.sls,by rw [e3];exact h.bks,h.bst,h.vls,by rw [e6];exact h.out,by rw [e2];exact h.ins,by rw [e1];exact h.prg,h.cF,h.cN,h.cL⟩
theorem DM.upd {w w' : World} {p : Nat} {Y : Dt} (h : DM s w p κ Y) {x' : DX} (hr : MB w' p x') (hl : Lone p w w') (e : x'.vs = Y.x.vs) : DM s w' p κ { Y with x := x' } :=
 ⟨hr,h.self,(h.rows.keep (S := (· = (10,0))) (Fr.lone hl h.self rfl) (fun k i h1 h => by cases h;omega)).x e,fun b hb => h.top b (Nat.le_trans hl.size hb)⟩
theorem DM.low {w w' : World} {p : Nat} (h : DM s w p κ Y) (hl : Lone p w w') : Fr0 κ κ w w' := (Fr.lone (S := (· = (10,0))) hl h.self rfl).all
theorem DM.setR {p : Nat} {Y : Dt} (h : DM s w p κ Y) {a g cap : Nat} {u : V} (hg : Y.x.vrg = .slice (some ⟨g,0,none⟩) Y.regs.length cap) (ha : a < Y.regs.length) :
 DM s ((w.setCell ⟨g,a * 2,none⟩ (.bool (vb u))).setCell ⟨g,a * 2 + 1,none⟩ (.int .i64 (vi u))) p κ { Y with regs := Y.regs.set a u } /\ Fr (· = (17,0)) κ κ w ((w.setCell ⟨g,a * 2,none⟩ (.bool (vb u))).setCell ⟨g,a * 2 + 1,none⟩ (.int .i64 (vi u))) := by
 have hb := h.rows.rgs
 rw [hg] at hb
 obtain ⟨t1,t2⟩ := hb.set (a * 2) (.bool (vb u))
 obtain ⟨t3,t4⟩ := t1.set (a * 2 + 1) (.int .i64 (vi u))
 rw [ja5 ha] at t3
 have t5 := t2.trans t4
 have hR := h.rows
 refine ⟨⟨h.mac.keep h.self t5 (by intro h;cases h),h.self,⟨?_,hR.frs.keep t5 (by intro h;cases h),fun i f hi => (hR.fst i f hi).keep t5 (by intro h;cases h),fun i f hi => (hR.sls i f hi).keep t5 (by intro h;cases h),hR.bks.keep t5 (by intro h;cases h),fun i f hi => (hR.bst i f hi).keep t5 (by intro h;cases h),fun i f hi => (hR.vls i f hi).keep t5 (by intro h;cases h),
  hR.out.keep t5 (by intro h;cases h),hR.ins.keep t5 (by intro h;cases h),hR.prg.keep t5 (by intro h;cases h),hR.cF.keep t5 (by intro h;cases h),hR.cN.keep t5 (by intro h;cases h),hR.cL.keep t5 (by intro h;cases h)⟩,fun b hb => h.top b (by simp only [jy] at hb;exact hb)⟩,t5⟩
 show TR _ κ (17,0) _ 2 Y.x.vrg (Y.regs.set a u).length _
 rw [hg,List.length_set];exact t3
theorem DM.setS {p : Nat} {Y : Dt} (h : DM s w p κ Y) {i a g cap : Nat} {f : HX} {u : V} (hi : Y.fs[i]? = some f) (hg : f.v = .slice (some ⟨g,0,none⟩) f.sl.length cap) (ha : a < f.sl.length) :
 DM s ((w.setCell ⟨g,a * 2,none⟩ (.bool (vb u))).setCell ⟨g,a * 2 + 1,none⟩ (.int .i64 (vi u))) p κ { Y with fs := Y.fs.set i { f with sl := f.sl.set a u } } /\ Fr (· = (16,i)) κ κ w ((w.setCell ⟨g,a * 2,none⟩ (.bool (vb u))).setCell ⟨g,a * 2 + 1,none⟩ (.int .i64 (vi u))) := by
 have hl : i < Y.fs.length := (jG hi).1
 have hb := h.rows.sls i f hi
 rw [hg] at hb
 obtain ⟨t1,t2⟩ := hb.set (a * 2) (.bool (vb u))
 obtain ⟨t3,t4⟩ := t1.set (a * 2 + 1) (.int .i64 (vi u))
 rw [ja5 ha] at t3
 have t5 := t2.trans t4
 have hR := h.rows
 refine ⟨⟨h.mac.keep h.self t5 (by intro h;cases h),h.self,⟨hR.rgs.keep t5 (by intro h;cases h),?_,fun j c hj => ?_,fun j c hj => ?_,hR.bks.keep t5 (by intro h;cases h),fun i f hi => (hR.bst i f hi).keep t5 (by intro h;cases h),fun i f hi => (hR.vls i f hi).keep t5 (by intro h;cases h),
  hR.out.keep t5 (by intro h;cases h),hR.ins.keep t5 (by intro h;cases h),hR.prg.keep t5 (by intro h;cases h),hR.cF.keep t5 (by intro h;cases h),hR.cN.keep t5 (by intro h;cases h),hR.cL.keep t5 (by intro h;cases h)⟩,fun b hb => h.top b (by simp only [jy] at hb;exact hb)⟩,t5⟩
 ·show TR _ κ (11,0) _ 1 Y.x.vfr (Y.fs.set i { f with sl := f.sl.set a u }).length ((Y.fs.set i { f with sl := f.sl.set a u }).map fun f => pt f.b)
  rw [jde hi (a := { f with sl := f.sl.set a u }) rfl,List.length_set]
  exact hR.frs.keep t5 (by intro h;cases h)
 ·rcases JJ hj hl with ⟨rfl,rfl⟩ | ⟨e,hj⟩
  ·exact (hR.fst i f hi).keep t5 (by intro h;cases h)
  ·exact (hR.fst j c hj).keep t5 (by intro h;cases h)
 ·rcases JJ hj hl with ⟨rfl,rfl⟩ | ⟨e,hj⟩
  ·show TR _ κ (16,i) _ 2 f.v (f.sl.set a u).length _
   rw [hg,List.length_set];exact t3
  ·exact (hR.sls j c hj).keep t5 (by intro h;cases h;exact e rfl)
theorem DM.setV {p : Nat} {Y : Dt} (h : DM s w p κ Y) {i a g cap : Nat} {f : GX} {u : V} (hi : Y.ds[i]? = some f) (hg : f.v = .slice (some ⟨g,0,none⟩) f.fs.length cap) (ha : a < f.fs.length) :
 DM s ((w.setCell ⟨g,a * 2,none⟩ (.bool (vb u))).setCell ⟨g,a * 2 + 1,none⟩ (.int .i64 (vi u))) p κ { Y with ds := Y.ds.set i { f with fs := f.fs.set a u } } /\ Fr (· = (15,i)) κ κ w ((w.setCell ⟨g,a * 2,none⟩ (.bool (vb u))).setCell ⟨g,a * 2 + 1,none⟩ (.int .i64 (vi u))) := by
 have hl : i < Y.ds.length := (jG hi).1
 have hb := h.rows.vls i f hi
 rw [hg] at hb
 obtain ⟨t1,t2⟩ := hb.set (a * 2) (.bool (vb u))
 obtain ⟨t3,t4⟩ := t1.set (a * 2 + 1) (.int .i64 (vi u))
 rw [ja5 ha] at t3
 have t5 := t2.trans t4
 have hR := h.rows
 refine ⟨⟨h.mac.keep h.self t5 (by intro h;cases h),h.self,⟨hR.rgs.keep t5 (by intro h;cases h),hR.frs.keep t5 (by intro h;cases h),fun i f hi => (hR.fst i f hi).keep t5 (by intro h;cases h),fun i f hi => (hR.sls i f hi).keep t5 (by intro h;cases h),?_,fun j c hj => ?_,fun j c hj => ?_,
  hR.out.keep t5 (by intro h;cases h),hR.ins.keep t5 (by intro h;cases h),hR.prg.keep t5 (by intro h;cases h),hR.cF.keep t5 (by intro h;cases h),hR.cN.keep t5 (by intro h;cases h),hR.cL.keep t5 (by intro h;cases h)⟩,fun b hb => h.top b (by simp only [jy] at hb;exact hb)⟩,t5⟩
 ·show TR _ κ (13,0) _ 1 Y.x.vbk (Y.ds.set i { f with fs := f.fs.set a u }).length ((Y.ds.set i { f with fs := f.fs.set a u }).map fun b => pt b.b)
  rw [jde hi (a := { f with fs := f.fs.set a u }) rfl,List.length_set]
  exact hR.bks.keep t5 (by intro h;cases h)
 ·rcases JJ hj hl with ⟨rfl,rfl⟩ | ⟨e,hj⟩
  ·exact (hR.bst i f hi).keep t5 (by intro h;cases h)
  ·exact (hR.bst j c hj).keep t5 (by intro h;cases h)
 ·rcases JJ hj hl with ⟨rfl,rfl⟩ | ⟨e,hj⟩
  ·show TR _ κ (15,i) _ 2 f.v (f.fs.set a u).length _
   rw [hg,List.length_set];exact t3
  ·exact (hR.vls j c hj).keep t5 (by intro h;cases h;exact e rfl)
end Ko
end Go.Proofs.YtjmgolahkgalbaaGreatDoor
