import Derived.Test.YtjmgolahkgalbaaGreatDoorS42
import Derived.Test.YtjmgolahkgalbaaGreatDoorS43
set_option linter.unusedVariables false
set_option linter.unusedSimpArgs false
set_option maxHeartbeats 20000000
namespace Go.Proofs.YtjmgolahkgalbaaGreatDoor
namespace Ko
open Go.RowKit Li
variable {s : ByteArray} {w : World} {m : Nat}
structure C0 (s : ByteArray) (half depth : Nat) (ins : List Int) (X : St) : Prop where
 half : X.x.half = half
 depth : X.x.depth = depth
 ins : X.ins = ins
 next : X.x.next = r0 s 0
 g : X.x.g = fun _ => z0
 fs : ∃ v,X.fs = [⟨0,List.replicate (r3 s 0) z0,v⟩]
 bs : X.bs = []
 free : X.free = []
 out : X.out = []
 used : X.x.used = 0
 gcs : X.x.gcs = 0
 gr : X.x.granted = 0
 err : X.x.err = 42
 pos : X.x.pos = 0
 val : X.x.val = 0
 steps : X.x.steps = 0
 read : X.x.read = 0
structure D0 (s : ByteArray) (half depth : Nat) (ins : List Int) (Y : Dt) : Prop where
 words : Y.x.words = half
 depth : Y.x.depth = depth
 ins : Y.ins = ins
 pc : Y.x.pc = r0 s 0
 regs : Y.regs = List.replicate 8 z0
 fs : ∃ b v,Y.fs = [⟨0,List.replicate (r3 s 0) z0,b,v⟩]
 ds : Y.ds = []
 out : Y.out = []
 used : Y.x.used = 0
 gcs : Y.x.gcs = 0
 fuel : Y.x.fuel = 0
 err : Y.x.err = 42
 pos : Y.x.pos = 0
 val : Y.x.val = 0
 steps : Y.x.steps = 0
 read : Y.x.read = 0
def m0 (s : ByteArray) : Mc := ⟨r0 s 0,List.replicate 8 z0,[⟨0,List.replicate (r3 s 0) z0⟩],0,42,0,0,[],0,0⟩
variable {X : St}
theorem C0.abs {half depth : Nat} {ins : List Int} (h : C0 s half depth ins X) : jj X = m0 s := by
 obtain ⟨v,hf⟩ := h.fs
 unfold jj m0
 rw [h.next,h.g,hf,h.gcs,h.err,h.pos,h.val,h.out,h.steps,h.read]
 rfl
variable {Y : Dt}
theorem D0.abs {half depth : Nat} {ins : List Int} (h : D0 s half depth ins Y) : jl Y = m0 s := by
 obtain ⟨b,v,hf⟩ := h.fs
 have e : frD Y = [⟨0,List.replicate (r3 s 0) z0⟩] := by unfold frD;rw [hf];rfl
 unfold jl m0
 rw [h.pc,h.regs,e,h.gcs,h.err,h.pos,h.val,h.out,h.steps,h.read]
theorem C0.ci {half depth : Nat} {ins : List Int} (h : C0 s half depth ins X) (hh : half <= 2048) (hd : 1 <= depth /\ depth <= 64) : CI half depth 0 ins X := by
 obtain ⟨v,hf⟩ := h.fs
 have hc : ∀ i,cnt X.fs i = 0 := fun i => by
  rw [hf]
  have := jbg [] ⟨0,List.replicate (r3 s 0) z0,v⟩ i
  rw [List.nil_append] at this
  rw [this]
  simp only
  rw [jdy];rfl
 refine ⟨h.half,hh,h.depth,hd.2,h.gr,h.ins,by rw [h.used,h.bs];rfl,by rw [h.bs];exact Nat.zero_le _,by rw [h.steps];omega,by rw [h.bs];exact Nat.zero_le _,by rw [h.gcs];exact Nat.zero_le _,fun i b hb => ?_,fun i b hb => ?_,fun i b hb => ?_,fun i => by rw [hc];exact Nat.zero_le _,fun a ha => ?_,by rw [h.free];exact List.nodup_nil,by rw [hf];simpa using hd.1,by rw [h.out];simp⟩
 ·rw [h.bs] at hb;simp at hb
 ·rw [h.bs] at hb;simp at hb
 ·rw [h.bs] at hb;simp at hb
 ·rw [h.free] at ha;cases ha
theorem jej {n i : Nat} (h : V.b i ∈ List.replicate n z0) : False := by
 rw [List.mem_replicate] at h
 exact absurd h.2 (by unfold z0;intro e;cases e)
theorem D0.di {half depth : Nat} {ins : List Int} (h : D0 s half depth ins Y) (hh : half <= 2048) (hd : 1 <= depth /\ depth <= 64) (hr : r3 s 0 <= 1024) : DI half depth 0 ins Y := by
 obtain ⟨b,v,hf⟩ := h.fs
 refine ⟨h.words,hh,h.depth,hd.2,h.fuel,h.ins,by rw [h.steps];omega,by rw [h.ds];exact Nat.zero_le _,by rw [h.gcs];exact Nat.zero_le _,by rw [h.regs];simp,fun i hi => ?_,fun f hf' i hi => ?_,fun b' hb' => ?_,fun b' hb' => ?_,fun f hf' => ?_,by rw [hf];simpa using hd.1,by rw [h.out];simp,by rw [h.read];exact Nat.zero_le _⟩
 ·rw [h.regs] at hi;exact (jej hi).elim
 ·rw [hf,List.mem_singleton] at hf'
  rw [hf'] at hi
  exact (jej hi).elim
 ·rw [h.ds] at hb';cases hb'
 ·rw [h.ds] at hb';cases hb'
 ·rw [hf,List.mem_singleton] at hf'
  rw [hf']
  simpa using hr
theorem sim0 (hck : Ck s) : Nx s (m0 s) [] (m0 s) [] 0 := by
 have e : Eqs (m0 s) [] (m0 s) 0 := ⟨rfl,rfl,rfl,rfl,rfl,rfl,rfl,rfl,Nat.zero_le _⟩
 refine ⟨e,fun _ => ⟨fun _ => none,0,_,⟨e,⟨fun i i' j h => (by cases h),fun i => ⟨fun ⟨j,h⟩ => (by cases h),fun ⟨b,h,_⟩ => (by simp at h)⟩,fun i j h => (by cases h),fun i j h => (by cases h)⟩,⟨rfl,jch (jaj _) _,trivial⟩,?_,rfl,hck.entry hck.fun0,by simp [m0],by simp [m0],fun z hz => ?_,fun z hz _ => ?_⟩⟩⟩
 ·show (List.replicate (r3 s 0) z0).length = r3 s 0
  simp
 ·show ∃ v,VR _ (rg (List.replicate 8 z0) z) v
  rw [jbv hz];exact ⟨_,jaj _⟩
 ·show VR _ (rg (List.replicate 8 z0) z) (rg (List.replicate 8 z0) z)
  rw [jbv hz];exact jaj _
variable {κ : Kp}
theorem DM.newout {w w' : World} {Y : Dt} (h : DM s w m κ Y) {g n cap : Nat} {out : List Int} (hn : n = out.length) (ho : w'.ownsRow 0 3 1 (.slice (some ⟨g,0,none⟩) n cap) n (iV out)) (hb : Below w.heap.size w w') (hg : w.heap.size <= g) (hg2 : g < w'.heap.size) :
 DM s (w'.setCell ⟨m,13,none⟩ (.slice (some ⟨g,0,none⟩) n cap)) m (jq κ g (19,0)) { Y with x := { Y.x with vout := .slice (some ⟨g,0,none⟩) n cap },out := out } /\ Fr0 κ (jq κ g (19,0)) w (w'.setCell ⟨m,13,none⟩ (.slice (some ⟨g,0,none⟩) n cap)) := by
 subst hn
 have h1 := (h.on hb).tag (19,0) (h.top g hg) hg2
 have hr3 : MB (w'.setCell ⟨m,13,none⟩ (.slice (some ⟨g,0,none⟩) out.length cap)) m { Y.x with vout := .slice (some ⟨g,0,none⟩) out.length cap } := jf h1.mac 13 _
 have t : Fr (· = (10,0)) (jq κ g (19,0)) (jq κ g (19,0)) w' (w'.setCell ⟨m,13,none⟩ (.slice (some ⟨g,0,none⟩) out.length cap)) := Fr.lone ((Lone.refl m w').set 13 _) h1.self rfl
 have hR := h1.rows
 refine ⟨⟨hr3,h1.self,⟨hR.rgs.keep t (by intro h;cases h),hR.frs.keep t (by intro h;cases h),fun i f hi => (hR.fst i f hi).keep t (by intro h;cases h),fun i f hi => (hR.sls i f hi).keep t (by intro h;cases h),hR.bks.keep t (by intro h;cases h),fun i f hi => (hR.bst i f hi).keep t (by intro h;cases h),fun i f hi => (hR.vls i f hi).keep t (by intro h;cases h),(TR.new ho rfl).keep t (by intro h;cases h),hR.ins.keep t (by intro h;cases h),hR.prg.keep t (by intro h;cases h),hR.cF.keep t (by intro h;cases h),hR.cN.keep t (by intro h;cases h),hR.cL.keep t (by intro h;cases h)⟩,fun b hb' => h1.top b (by rw [jy] at hb';exact hb')⟩,Fr0.trans (Fr.tags (Fr.of hb) (fun b hb' => JG (by omega))) t.all⟩
theorem jiH (n : Nat) (hn : n <= 70000) (w : World) : (Instr.makeSlice 22 (.int .i64 (n : Int)) (.int .i64 ((n : Int) + 1))).run Tryz.prog w = .ok (.slice (some ⟨w.heap.size,0,none⟩) n (n + 1)) (w.alloc (.cells (List.replicate (n + 1) (Value.int .i64 0)).toArray 3)) := by
 obtain ⟨i,hi,hz,hs,hb⟩ := info_parts Tryz.kiI
 have hr := run_make (P := Tryz.prog) w 22 3 i _ Tryz.kuI hi hz .i64 .i64 n ((n : Int) + 1) (by omega) (by omega) (by rw [hb];omega) (by omega)
 rw [hs] at hr
 rw [show ((n : Int) + 1).toNat = n + 1 by omega] at hr
 simp only [Int.toNat_natCast,Nat.mul_one] at hr
 have e : madeCells (Value.int .i64 0).cells (n + 1) = (List.replicate (n + 1) (Value.int .i64 0)).toArray := by
  apply Array.toList_inj.1
  rw [show (Value.int IntKind.i64 0).cells = #[.int .i64 0] from rfl,toList_madeCells_one]
 rw [e] at hr
 exact hr
structure NwO (s : ByteArray) (m : Nat) (κ : Kp) (Y : Dt) (a : Int) (W2 w6 : World) (v : Value) (g : Nat) : Prop where
 mac6 : MB w6 m Y.x
 dm : DM s (w6.setCell ⟨m,13,none⟩ v) m (jq κ g (19,0)) (outD Y a v)
 fr : Fr0 κ (jq κ g (19,0)) W2 (w6.setCell ⟨m,13,none⟩ v)
theorem jie {a : Int} {W2 w5 w5' w6 : World} (h : DM s W2 m κ Y) (h5 : Below W2.heap.size W2 w5) (h5' : Below w5.heap.size w5 w5') {L nb gn cn H : Nat} (hg : w5'.grownBy w6 (some nb)) (hnb : W2.heap.size = nb) (hL : Y.out.length = L) (ho : w6.ownsRow 0 3 1 (.slice (some ⟨gn,0,none⟩) (L + 1) cn) (L + 1) (iV Y.out ++ [.int .i64 a])) (hat : (some nb : Option Nat) = some gn \/ gn = H) (hlt : gn < w6.heap.size) (hH : W2.heap.size <= H) :
 NwO s m κ Y a W2 w6 (.slice (some ⟨gn,0,none⟩) (L + 1) cn) gn := by
 have hz := h5.size
 have hz' := h5'.size
 have hB : Below W2.heap.size W2 w6 := (h5.trans (h5'.mono hz)).trans ⟨hg.os,hg.tape,hg.output,hg.size,fun k hk => hg.block k (by omega) (by intro e;cases e;omega)⟩
 have hgn : W2.heap.size <= gn := by
  rcases hat with h1 | h1
  ·cases h1;omega
  ·omega
 obtain ⟨d1,d2⟩ := h.newout (out := Y.out ++ [a]) (n := L + 1) (by simp [hL]) (by
  have e : iV (Y.out ++ [a]) = iV Y.out ++ [.int .i64 a] := by unfold iV;simp
  rw [e];exact ho) hB hgn hlt
 exact ⟨(h.on hB).mac,d1,d2⟩
theorem jah (l : List Int) : (iV l).length = l.length := by unfold iV;simp
theorem jcm (l : List Int) : ∀ u ∈ iV l,u.oneCell' = true := by
 intro u hu
 unfold iV at hu
 obtain ⟨z,_,rfl⟩ := List.mem_map.1 hu
 rfl
theorem jbh {w w' : World} {b j : Nat} {u : Value} (h : w.cell? ⟨b,j,none⟩ = some u) (hb : b < w.heap.size) (hB : Below w.heap.size w w') : w'.cell? ⟨b,j,none⟩ = some u := by
 unfold World.cell? at h ⊢
 rw [hB.block b hb]
 exact h
def jau (r : Nat) (vi vF vN vL : Value) : Kp := fun b => if b = r then some (0,0) else if vi.ownBlock = some b then some (7,0) else if vF.ownBlock = some b \/ vN.ownBlock = some b \/ vL.ownBlock = some b then some (8,0) else none
def x0 (vF vN vL : Value) (depth : Nat) (vin : Value) (half : Nat) : RX := ⟨vF,vN,vL,depth,vin,0,fun _ => z0,.slice none 0 0,half,0,0,.slice none 0 0,.slice none 0 0,0,42,0,0,.slice none 0 0,0,0⟩
theorem rm0 {r B B2 : Nat} {vF vN vL vin : Value} {depth half : Nat} {ins : List Int} (hr : RB w r (x0 vF vN vL depth vin half)) (hc : jU s w B vF vN vL) (hi : w.ownsRow B2 3 1 vin ins.length (iV ins)) (h1 : ∀ b,vF.ownBlock = some b \/ vN.ownBlock = some b \/ vL.ownBlock = some b -> b < r) (h2 : r < B2) :
 RM s w r (jau r vin vF vN vL) ⟨x0 vF vN vL depth vin half,[],[],[],[],ins⟩ := by
 have tF : ∀ b,(vF.ownBlock = some b \/ vN.ownBlock = some b \/ vL.ownBlock = some b) -> jau r vin vF vN vL b = some (8,0) := fun b hb => by
  have hlt := h1 b hb
  have hni : vin.ownBlock ≠ some b := fun e => by have := (hi.lt b e).1;omega
  unfold jau
  rw [if_neg (by omega),if_neg hni,if_pos hb]
 refine ⟨hr,by unfold jau;rw [if_pos rfl],⟨TR.nil _ _ _ _ _,fun i f hf => by simp at hf,TR.nil _ _ _ _ _,fun i b hb => by simp at hb,TR.nil _ _ _ _ _,TR.nil _ _ _ _ _,⟨Js hi (Nat.zero_le _),fun b hb => ?_⟩,⟨Js hc.funs (Nat.zero_le _),fun b hb => tF b (.inl hb)⟩,⟨Js hc.nums (Nat.zero_le _),fun b hb => tF b (.inr (.inl hb))⟩,⟨Js hc.lines (Nat.zero_le _),fun b hb => tF b (.inr (.inr hb))⟩⟩,fun b hb => ?_⟩
 ·have hb' : vin.ownBlock = some b := hb
  have := (hi.lt b hb').1
  unfold jau
  rw [if_neg (by omega),if_pos hb']
 ·have hrs := jb hr
  unfold jau
  rw [if_neg (by omega),if_neg (fun e => by have := (hi.lt b e).2;omega),if_neg]
  rintro (e | e | e)
  ·have := (hc.funs.lt b e).2;omega
  ·have := (hc.nums.lt b e).2;omega
  ·have := (hc.lines.lt b e).2;omega
theorem je5 {r B B2 : Nat} {vF vN vL vin : Value} {n : Nat} {xs : List Value} (hc : jU s w B vF vN vL) (hi : w.ownsRow B2 3 1 vin n xs) (hr : B <= r) (h2 : B <= B2) : ∀ b,b < B -> jau r vin vF vN vL b = none := fun b hb => by
 unfold jau
 rw [if_neg (by omega),if_neg (fun e => by have := (hi.lt b e).1;omega),if_neg]
 rintro (e | e | e)
 ·have := (hc.funs.lt b e).1;omega
 ·have := (hc.nums.lt b e).1;omega
 ·have := (hc.lines.lt b e).1;omega
theorem bg4 {W w4 : World} {r : Nat} (hz : W.heap.size = r + 1) (hg : (W.alloc (.cells #[] 3 (0,0))).grownBy w4 (some (r + 1))) : Below (r + 1) W w4 := by
 have hA := jr W (.cells #[] 3 (0,0))
 rw [hz] at hA
 refine hA.trans ⟨hg.os,hg.tape,hg.output,hg.size,fun k hk => hg.block k (by simp;omega) (by intro e;cases e;omega)⟩
theorem jjr {w w' : World} {b B : Nat} {o : Obj} (h : w.heap[b]? = some o) (hb : Below B w w') (hl : b < B := by omega) : w'.heap[b]? = some o := (hb.block b hl).trans h
theorem jcC {w w' : World} {B : Nat} {vF vN vL : Value} (h : jU s w B vF vN vL) (hb : Below w.heap.size w w') : jU s w' B vF vN vL :=
 ⟨j3 h.funs fun b e => hb.block b (h.funs.lt b e).2,j3 h.nums fun b e => hb.block b (h.nums.lt b e).2,j3 h.lines fun b e => hb.block b (h.lines.lt b e).2⟩
theorem rmB {w w4 : World} {r B n : Nat} {vF vN vL vin : Value} {depth words : Nat} {ins : List Int} (hr : w4.heap[r]? = some (.cells (Jp (x0 vF vN vL depth (.slice none 0 0) 0)) 85 (0,0))) (hc : jU s w B vF vN vL) (hb : Below w.heap.size w w4) (hw : w.heap.size <= r) (hi : w4.ownsRow (r + 1) 3 1 vin n (iV ins)) (hn : n = ins.length) :
 RM s ((w4.setCell ⟨r,4,none⟩ vin).setCell ⟨r,23,none⟩ (.int .i64 ((words : Int) / 2))) r (jau r vin vF vN vL) ⟨x0 vF vN vL depth vin (words / 2),[],[],[],[],ins⟩ := by
 subst hn
 have hc4 := jcC hc hb
 have hlt : ∀ b,vF.ownBlock = some b \/ vN.ownBlock = some b \/ vL.ownBlock = some b -> b < r := by
  rintro b (e | e | e)
  ·have := (hc.funs.lt b e).2;omega
  ·have := (hc.nums.lt b e).2;omega
  ·have := (hc.lines.lt b e).2;omega
 have hL : Lone r w4 ((w4.setCell ⟨r,4,none⟩ vin).setCell ⟨r,23,none⟩ (.int .i64 ((words : Int) / 2))) := ((Lone.refl _ _).set _ _).set _ _
 have hR : RB ((w4.setCell ⟨r,4,none⟩ vin).setCell ⟨r,23,none⟩ (.int .i64 ((words : Int) / 2))) r (x0 vF vN vL depth vin (words / 2)) := by
  have h1 := jf (jf hr 4 vin) 23 (.int .i64 ((words / 2 : Nat) : Int))
  rw [show ((words / 2 : Nat) : Int) = (words : Int) / 2 by omega] at h1
  unfold RB
  rw [h1]
  unfold x0
  rw [show (words : Int) / 2 = ((words / 2 : Nat) : Int) by omega]
  rfl
 refine rm0 hR ⟨j3 hc4.funs fun b e => hL.rest b (hc4.funs.lt b e).2 (by have := hlt b (.inl e);omega),j3 hc4.nums fun b e => hL.rest b (hc4.nums.lt b e).2 (by have := hlt b (.inr (.inl e));omega),j3 hc4.lines fun b e => hL.rest b (hc4.lines.lt b e).2 (by have := hlt b (.inr (.inr e));omega)⟩ (j3 hi fun b e => hL.rest b (hi.lt b e).2 (by have := (hi.lt b e).1;omega)) hlt (Nat.lt_succ_self _)
def BgP (s : ByteArray) (half depth : Nat) (ins : List Int) (B : Nat) (w : World) (e : Ending) (w' : World) : Prop :=
 ∃ r κ X,e = .returned (.pointer (some ⟨r,0,none⟩)) /\ RM s w' r κ X /\ C0 s half depth ins X /\ (∀ b,b < B -> κ b = none) /\ Below B w w'
set_option maxRecDepth 100000 in
theorem jmc (hck : Ck s) {B : Nat} {aF aN aL : Option Addr} {nF cF' nN cN' nL cL' : Nat} (hc : jU s w B (.slice aF nF cF') (.slice aN nN cN') (.slice aL nL cL')) (hB : B <= w.heap.size) {words depth gi ci : Nat} {ins : List Int} (hw : words <= 4096) (hil : ins.length <= 16) (hcell : ∀ j u,(iV ins)[j]? = some u -> w.cell? ⟨gi,j,none⟩ = some u) (hgi : gi < w.heap.size) (hci : ins.length <= ci) :
 Calls Tryz.prog 22 #[.agg #[.slice aF nF cF',.slice aN nN cN',.slice aL nL cL'],.int .i64 words,.int .i64 depth,.slice (some ⟨gi,0,none⟩) ins.length ci] w (BgP s (words / 2) depth ins B w) := by
 have HC := jH hc
 have HCK := jH hck
 have HCE := jH hcell
 obtain ⟨i0,hi0,hz0,hz1,hz2⟩ := info_parts Tryz.kiI
 clear hc hck hcell
 go_enter Tryz.func22,Tryz.ntmps22
 go_upto_region 2 with fail
 have hW : Below w.heap.size w ((w.alloc (.cells #[.slice aF nF cF',.slice aN nN cN',.slice aL nL cL'] 68 (0,0))).alloc (.cells #[.slice aF nF cF',.slice aN nN cN',.slice aL nL cL',.int .i64 depth,.slice none 0 0,.int .i64 0,.bool false,.int .i64 0,.bool false,.int .i64 0,.bool false,.int .i64 0,.bool false,.int .i64 0,.bool false,.int .i64 0,.bool false,.int .i64 0,.bool false,.int .i64 0,.bool false,.int .i64 0,.slice none 0 0,.int .i64 0,.int .i64 0,.int .i64 0,.slice none 0 0,.slice none 0 0,.int .i64 0,.int .i64 42,.int .i64 0,.int .i64 0,.slice none 0 0,.int .i64 0,.int .i64 0] 85 (0,0))) := JM _ _ _
 have hR : ((w.alloc (.cells #[.slice aF nF cF',.slice aN nN cN',.slice aL nL cL'] 68 (0,0))).alloc (.cells #[.slice aF nF cF',.slice aN nN cN',.slice aL nL cL',.int .i64 depth,.slice none 0 0,.int .i64 0,.bool false,.int .i64 0,.bool false,.int .i64 0,.bool false,.int .i64 0,.bool false,.int .i64 0,.bool false,.int .i64 0,.bool false,.int .i64 0,.bool false,.int .i64 0,.bool false,.int .i64 0,.slice none 0 0,.int .i64 0,.int .i64 0,.int .i64 0,.slice none 0 0,.slice none 0 0,.int .i64 0,.int .i64 42,.int .i64 0,.int .i64 0,.slice none 0 0,.int .i64 0,.int .i64 0] 85 (0,0))).heap[w.heap.size + 1]? = some (.cells (Jp (x0 (.slice aF nF cF') (.slice aN nN cN') (.slice aL nL cL') depth (.slice none 0 0) 0)) 85 (0,0)) := j9 (by simp)
 obtain ⟨r,hr⟩ : ∃ r,w.heap.size + 1 = r := ⟨_,rfl⟩
 have hz : ((w.alloc (.cells #[.slice aF nF cF',.slice aN nN cN',.slice aL nL cL'] 68 (0,0))).alloc (.cells #[.slice aF nF cF',.slice aN nN cN',.slice aL nL cL',.int .i64 depth,.slice none 0 0,.int .i64 0,.bool false,.int .i64 0,.bool false,.int .i64 0,.bool false,.int .i64 0,.bool false,.int .i64 0,.bool false,.int .i64 0,.bool false,.int .i64 0,.bool false,.int .i64 0,.bool false,.int .i64 0,.slice none 0 0,.int .i64 0,.int .i64 0,.int .i64 0,.slice none 0 0,.slice none 0 0,.int .i64 0,.int .i64 42,.int .i64 0,.int .i64 0,.slice none 0 0,.int .i64 0,.int .i64 0] 85 (0,0))).heap.size = r + 1 := by simp;omega
 rw [hr] at hR
 generalize ((w.alloc (.cells #[.slice aF nF cF',.slice aN nN cN',.slice aL nL cL'] 68 (0,0))).alloc (.cells #[.slice aF nF cF',.slice aN nN cN',.slice aL nL cL',.int .i64 depth,.slice none 0 0,.int .i64 0,.bool false,.int .i64 0,.bool false,.int .i64 0,.bool false,.int .i64 0,.bool false,.int .i64 0,.bool false,.int .i64 0,.bool false,.int .i64 0,.bool false,.int .i64 0,.bool false,.int .i64 0,.slice none 0 0,.int .i64 0,.int .i64 0,.int .i64 0,.slice none 0 0,.slice none 0 0,.int .i64 0,.int .i64 42,.int .i64 0,.int .i64 0,.slice none 0 0,.int .i64 0,.int .i64 0] 85 (0,0))) = W at hW hR hz ⊢
 rw [hr]
 have HW := jH hW
 have HR := jH hR
 have hrW := jb hR
 have HCE2 : Hid (∀ j u,(iV ins)[j]? = some u -> (W.alloc (.cells #[] 3 (0,0))).cell? ((⟨gi,0,none⟩ : Addr).add j) = some u) := fun j u hj => by
  rw [add0]
  exact jbh (HCE.out j u hj) hgi (hW.alloc hW.size _)
 have HOW : Hid ((W.alloc (.cells #[] 3 (0,0))).ownsRow (r + 1) 3 1 (.slice (some ⟨r + 1,0,none⟩) 0 0) 0 []) := by
  have h1 := World.ownsRow_made (base := r + 1) (e := 3) (size := 1) W #[] 0 (by omega) (Nat.zero_le _) rfl
  rw [hz] at h1
  exact h1
 clear hW hR
 go_wp2_with (first
  | (at_builtin;go_loud (refine JO _ rfl (.tmp 15) (.tmp 16) 22 rfl (r + 1) 3 i0 _ 1 8 Tryz.kuI hi0 hz0 hz1 hz2 rfl (by decide) (.slice (some ⟨r + 1,0,none⟩) 0 0) 0 [] rfl HOW.out ⟨gi,0,none⟩ ins.length ci (iV ins) rfl (by rw [jah,Nat.mul_one]) HCE2.out (jcm _) ?_ ?_ ?_ ?_;(unfold maxLen;omega);(omega);(simp;omega);intro v' w4 hown4 hg4 hrow4;simp only [Nat.zero_add,List.nil_append] at hown4;obtain ⟨a9,p9,e9,hc9⟩ := jbC hown4;subst e9;have hB4 : Below (r + 1) W w4 := bg4 hz hg4;have hr4 := jjr HR.out hB4;have c4 : w4.cell? ⟨r,4,none⟩ = some (.slice none 0 0) := ja hr4 4 rfl;have z4 := je hr4 4;have c23 : w4.cell? ⟨r,23,none⟩ = some (.int .i64 0) := ja hr4 23 rfl;have z23 := je hr4 23;have hl4 := jb hr4;have HR4 := jH hr4;have HB4 := jH hB4;have HO4 := jH hown4;clear hr4 hB4 hown4 hg4 hrow4))
  | (go_at_call 45;have hRM := rmB (words := words) HR4.out HC.out (HW.out.trans (HB4.out.mono (by omega))) (by omega) HO4.out rfl;have HRM := jH hRM;clear hRM;refine (jbQ HRM.out (k := 0) HCK.out.fun0 (by have := (j7 HCK.out.row HCK.out.fun0).2.2.1;omega) (by simp) 0).mono ?_;rintro _ w5 ⟨rfl,κ5,X5,⟨vf,v,hX5⟩,h5,f5⟩))
 go_ret
 refine ⟨r,κ5,X5,rfl,h5,?_,fun b hb => ?_,?_⟩
 ·subst hX5
  exact ⟨rfl,rfl,rfl,rfl,rfl,⟨v,rfl⟩,rfl,rfl,rfl,rfl,rfl,rfl,rfl,rfl,rfl,rfl,rfl⟩
 ·have hk := je5 (r := r) (jcC HC.out (HW.out.trans (HB4.out.mono (by omega)))) HO4.out (by omega) (by omega) b hb
  exact (f5.old b (by simp only [jy];have := HW.out.size;have := HB4.out.size;omega)).trans hk
 ·have hk := je5 (r := r) (jcC HC.out (HW.out.trans (HB4.out.mono (by omega)))) HO4.out (by omega) (by omega)
  have hL : Lone r w4 ((w4.setCell ⟨r,4,none⟩ (.slice a9 ins.length p9)).setCell ⟨r,23,none⟩ (.int .i64 ((words : Int) / 2))) := ((Lone.refl _ _).set _ _).set _ _
  have h1 : Below B w w4 := (HW.out.trans (HB4.out.mono (by omega))).mono hB
  have h2 := h1.trans (hL.below.mono (by omega))
  refine h2.trans ⟨f5.low.os,f5.low.tape,f5.low.output,f5.low.size,fun k hkb => f5.rest k (by simp only [jy];have := HW.out.size;have := HB4.out.size;omega) (fun t ht => by rw [hk k hkb] at ht;cases ht)⟩
def stR (s : ByteArray) (words depth : Int) (n : Nat) : Nat × Nat :=
 if words < 0 \/ 4096 < words then (21,0) else if depth < 1 \/ 64 < depth then (22,0) else if 16 < n then (23,0) else ckR s
structure StOk (s : ByteArray) (words depth : Int) (n : Nat) : Prop where
 ck : ckR s = (0,0)
 w0 : 0 <= words /\ words <= 4096
 d0 : 1 <= depth /\ depth <= 64
 n0 : n <= 16
theorem jlM {at' : Nat} (h : ckR s = (0,at')) : at' = 0 := by
 unfold ckR at h
 cases hr : Li.res s with
 | some e =>
   rw [hr] at h
   simp only at h
   obtain ⟨er,q⟩ := e
   have h1 := jeh hr
   cases h
   omega
 | none =>
   rw [hr] at h
   simp only at h
   cases ho : jz (opK s) (hF s) 0 with
   | some p => rw [ho] at h;simp at h
   | none =>
     rw [ho] at h
     simp only at h
     cases hf : jz (flK s) (hF s) 0 with
     | some p => rw [hf] at h;simp at h
     | none => rw [hf] at h;simp at h;exact h.symm
theorem jgw {words depth : Int} {n at' : Nat} (h : stR s words depth n = (0,at')) : StOk s words depth n := by
 unfold stR at h
 split at h
 ·cases h
 ·split at h
  ·cases h
  ·split at h
   ·cases h
   ·rename_i h1 h2 h3
    have := jlM h
    subst this
    exact ⟨h,by omega,by omega,by omega⟩
set_option maxRecDepth 100000 in
theorem jfS {b n ci : Nat} {a : Option Addr} {words depth : Int} {er : Nat} (hl : ¬ (0 <= words /\ words <= 4096 /\ 1 <= depth /\ depth <= 64 /\ n <= 16)) (hn : n <= 1073741824) :
 Calls Tryz.prog 16 #[.pointer (some ⟨b,0,none⟩),.string s,.int .i64 words,.int .i64 depth,.slice a n ci] w fun e w' => e = .returned (.tuple #[.int .i64 ((stR s words depth n).1 : Nat),.int .i64 ((stR s words depth n).2 : Nat)]) /\ w' = w := by
 by_cases h1 : words < 0
 ·have e : stR s words depth n = (21,0) := by unfold stR;rw [if_pos (.inl h1)]
  rw [e]
  have g1 : decide (words < (0 : Int)) = true := by simpa using h1
  clear hl h1 e
  go_enter Tryz.func16,Tryz.ntmps16
  go_wp2
  go_ret2
  exact ⟨rfl,rfl⟩
 ·have g1 : decide (words < (0 : Int)) = false := by simpa using h1
  by_cases h2 : 4096 < words
  ·have e : stR s words depth n = (21,0) := by unfold stR;rw [if_pos (.inr h2)]
   rw [e]
   have g2 : decide ((4096 : Int) < words) = true := by simpa using h2
   clear hl h1 h2 e
   go_enter Tryz.func16,Tryz.ntmps16
   go_wp2
   go_ret2
   exact ⟨rfl,rfl⟩
  ·have g2 : decide ((4096 : Int) < words) = false := by simpa using h2
   by_cases h3 : depth < 1
   ·have e : stR s words depth n = (22,0) := by unfold stR;rw [if_neg (by omega),if_pos (.inl h3)]
    rw [e]
    have g3 : decide (depth < (1 : Int)) = true := by simpa using h3
    clear hl h1 h2 h3 e
    go_enter Tryz.func16,Tryz.ntmps16
    go_wp2
    go_ret2
    exact ⟨rfl,rfl⟩
   ·have g3 : decide (depth < (1 : Int)) = false := by simp;omega
    by_cases h4 : 64 < depth
    ·have e : stR s words depth n = (22,0) := by unfold stR;rw [if_neg (by omega),if_pos (.inr h4)]
     rw [e]
     have g4 : decide ((64 : Int) < depth) = true := by simpa using h4
     clear hl h1 h2 h3 h4 e
     go_enter Tryz.func16,Tryz.ntmps16
     go_wp2
     go_ret2
     exact ⟨rfl,rfl⟩
    ·have g4 : decide ((64 : Int) < depth) = false := by simpa using h4
     have h5 : 16 < n := by omega
     have e : stR s words depth n = (23,0) := by unfold stR;rw [if_neg (by omega),if_neg (by omega),if_pos h5]
     rw [e]
     have g5 : decide ((16 : Int) < (n : Int)) = true := by simp;omega
     clear hl h1 h2 h3 h4 h5 e
     go_enter Tryz.func16,Tryz.ntmps16
     go_wp2
     go_ret2
     exact ⟨rfl,rfl⟩
structure Fit (words depth n : Nat) : Prop where
 w0 : words <= 4096
 d0 : 1 <= depth /\ depth <= 64
 n0 : n <= 16
theorem jft (h : res s = none) : Calls Tryz.prog 20 #[.string s] w fun e w' => ∃ aF nF cFc aN nN cNc aL nL cLc,e = .returned (.tuple #[.agg #[.slice aF nF cFc,.slice aN nN cNc,.slice aL nL cLc],.int .i64 0,.int .i64 0]) /\ jU s w' w.heap.size (.slice aF nF cFc) (.slice aN nN cNc) (.slice aL nL cLc) /\ Below w.heap.size w w' := by
 refine (jlu (w := w) h).mono ?_
 rintro e w' ⟨vF,vN,vL,he,hc,hb⟩
 obtain ⟨a1,c1,rfl⟩ := j5 hc.funs
 obtain ⟨a2,c2,rfl⟩ := j5 hc.nums
 obtain ⟨a3,c3,rfl⟩ := j5 hc.lines
 exact ⟨_,_,_,_,_,_,_,_,_,he,hc,hb⟩
theorem jfn {er at' : Nat} (h : res s = none) (hl : Jc w.heap.size w) (hR : JS s = (er,at')) : ∀ (W : World) aF nF cFc aN nN cNc aL nL cLc,jU s W w.heap.size (.slice aF nF cFc) (.slice aN nN cNc) (.slice aL nL cLc) -> Below w.heap.size w W -> ∀ o : Obj,Calls Tryz.prog 21 #[.agg #[.slice aF nF cFc,.slice aN nN cNc,.slice aL nL cLc]] (W.alloc o) fun e w' => e = .returned (.tuple #[.int .i64 er,.int .i64 at']) /\ Below (W.alloc o).heap.size (W.alloc o) w' := fun W aF nF cFc aN nN cNc aL nL cLc hc hb o => by
 have hs := hb.size
 have hB : Below w.heap.size w (W.alloc o) := hb.alloc hs o
 have hz : w.heap.size <= (W.alloc o).heap.size := by rw [World.size_alloc];omega
 exact jkk ⟨hc.funs.alloc _,hc.nums.alloc _,hc.lines.alloc _⟩ (jbw h).2.2.1 ((hl.on hB).less hz) hR
set_option maxRecDepth 100000 in
theorem jfT {b n ci : Nat} {a : Option Addr} {words depth er at' : Nat} (hs : s.size <= 1073741824) (hl : Jc w.heap.size w) (hf : Fit words depth n) (hR : ckR s = (er,at')) (hne : er ≠ 0) :
 Calls Tryz.prog 16 #[.pointer (some ⟨b,0,none⟩),.string s,.int .i64 words,.int .i64 depth,.slice a n ci] w fun e w' => e = .returned (.tuple #[.int .i64 er,.int .i64 at']) /\ Below w.heap.size w w' := by
 have f1 := hf.w0
 have f2 := hf.d0
 have f3 := hf.n0
 have g1 : decide ((words : Int) < (0 : Int)) = false := by simp
 have g2 : decide ((4096 : Int) < (words : Int)) = false := by simp;omega
 have g3 : decide ((depth : Int) < (1 : Int)) = false := by simp;omega
 have g4 : decide ((64 : Int) < (depth : Int)) = false := by simp;omega
 have g5 : decide ((16 : Int) < (n : Int)) = false := by simp;omega
 have g6 : ((er : Int) != 0) = true := by simp;omega
 cases h : res s with
 | some p =>
   obtain ⟨e1,a1⟩ := p
   rw [jfA h] at hR
   cases hR
   have HR := jH (jly (w := w) hs h)
   clear h hl hf f1 f2 f3 hne
   go_enter Tryz.func16,Tryz.ntmps16
   go_wp2_with (go_at_call 20;refine HR.out.mono ?_;rintro _ w1 ⟨rfl,hb1⟩)
   go_ret2
   exact ⟨rfl,hb1.alloc hb1.size _⟩
 | none =>
   rw [jdB h] at hR
   have HR := jH (jft (w := w) h)
   have HT := jH (jfn h hl hR)
   clear h hl hf f1 f2 f3 hne hR
   go_enter Tryz.func16,Tryz.ntmps16
   go_wp2_with (first
    | (go_at_call 20;refine HR.out.mono ?_;rintro _ w1 ⟨aF,nF,cFc,aN,nN,cNc,aL,nL,cLc,rfl,hc1,hb1⟩;have HC1 := jH hc1;clear hc1)
    | (go_at_call 21;refine (HT.out _ _ _ _ _ _ _ _ _ _ HC1.out hb1 _).mono ?_;rintro _ w2 ⟨rfl,hb2⟩))
   go_ret2
   exact ⟨rfl,(hb1.alloc hb1.size _).trans (hb2.mono (by rw [World.size_alloc];have := hb1.size;omega))⟩
def vmB (r : Option Nat) : Obj := .cells #[.pointer (r.map fun r => ⟨r,0,none⟩)] 49 (0,0)
def VsP (s : ByteArray) (half depth : Nat) (ins : List Int) (w : World) (b : Nat) (e : Ending) (w' : World) : Prop :=
 e = .returned (.tuple #[.int .i64 0,.int .i64 0]) /\ ∃ r κ X,RM s w' r κ X /\ C0 s half depth ins X /\ (∀ k,k < w.heap.size -> κ k = none) /\ w'.heap[b]? = some (vmB (some r)) /\ Lone b w w'
set_option maxRecDepth 100000 in
theorem jfR {b gi ci : Nat} {ins : List Int} {words depth : Nat} (hck : ckR s = (0,0)) (hl : Jc w.heap.size w) (hf : Fit words depth ins.length) (hb : w.heap[b]? = some (vmB none)) (hcell : ∀ j u,(iV ins)[j]? = some u -> w.cell? ⟨gi,j,none⟩ = some u) (hgi : gi < w.heap.size) (hci : ins.length <= ci) :
 Calls Tryz.prog 16 #[.pointer (some ⟨b,0,none⟩),.string s,.int .i64 words,.int .i64 depth,.slice (some ⟨gi,0,none⟩) ins.length ci] w (VsP s (words / 2) depth ins w b) := by
 have f1 := hf.w0
 have f2 := hf.d0
 have f3 := hf.n0
 have g1 : decide ((words : Int) < (0 : Int)) = false := by simp
 have g2 : decide ((4096 : Int) < (words : Int)) = false := by simp;omega
 have g3 : decide ((depth : Int) < (1 : Int)) = false := by simp;omega
 have g4 : decide ((64 : Int) < (depth : Int)) = false := by simp;omega
 have g5 : decide ((16 : Int) < (ins.length : Int)) = false := by simp;omega
 have HCK := jH (jdA hck)
 have h := HCK.out.res
 have hR := hck
 rw [jdB h] at hR
 have HR := jH (jft (w := w) h)
 have HT := jH (jfn h hl hR)
 have HB := jH hb
 have HCE := jH hcell
 have hbl := jb hb
 clear h hl hf hR hck hb hcell
 go_enter Tryz.func16,Tryz.ntmps16
 go_wp2_with (first
  | (go_at_call 20;refine HR.out.mono ?_;rintro _ w1 ⟨aF,nF,cFc,aN,nN,cNc,aL,nL,cLc,rfl,hc1,hb1⟩;have HC1 := jH hc1;clear hc1)
  | (go_at_call 21;refine (HT.out _ _ _ _ _ _ _ _ _ _ HC1.out hb1 _).mono ?_;rintro _ w2 ⟨rfl,hb2⟩;have hbx := jc (jg w1 (.cells #[.slice aF nF cFc,.slice aN nN cNc,.slice aL nL cLc] 68 (0,0))) hb2 (by simp);have y0 := ja hbx 0 rfl;have y1 := ja hbx 1 rfl;have y2 := ja hbx 2 rfl;simp only [List.getElem_toArray,List.getElem_cons_zero,List.getElem_cons_succ] at y0 y1 y2;have hq2 := jb hbx;have HB2 : Hid (Below w.heap.size w w2) := (hb1.alloc hb1.size _).trans (hb2.mono (by rw [World.size_alloc];have := hb1.size;omega));have HC2 := jH (jcC (jU.mk (HC1.out.funs.alloc _) (HC1.out.nums.alloc _) (HC1.out.lines.alloc _)) hb2);clear hb2 hbx)
  | (go_at_call 22;refine (jmc HCK.out HC2.out HB2.out.size f1 f3 (fun j u hj => jbh (HCE.out j u hj) hgi HB2.out) (Nat.lt_of_lt_of_le hgi HB2.out.size) hci).mono ?_;rintro _ w3 ⟨r,κ,X,rfl,hRM,hC0,hkl,hb3⟩;have hB3 := HB2.out.trans hb3;have hbv := jc HB.out hB3 hbl;have v0 : w3.cell? ⟨b,0,none⟩ = some (.pointer none) := ja hbv 0 rfl;have z0' := je hbv 0;have hl3 := jb hbv;have HRM := jH hRM;have HC0 := jH hC0;have HKL := jH hkl;have HBV := jH hbv;have HB3 := jH hB3;clear hRM hC0 hkl hb3 hB3 hbv))
 go_ret2
 have hL : Lone b w3 (w3.setCell ⟨b,0,none⟩ (.pointer (some ⟨r,0,none⟩))) := (Lone.refl _ _).set 0 _
 exact ⟨rfl,r,κ,X,HRM.out.other (fun k i _ e => by rw [HKL.out b hbl] at e;cases e) hL,HC0.out,HKL.out,jf HBV.out 0 _,(Lone.of HB3.out (Nat.le_of_lt hbl)).trans hL⟩
theorem jcR {W : World} {tmps : Array Value} {b : Nat} {x0 x1 x2 x3 x4 x5 x6 x7 : Value} {t : TypeId} {Q : Ending -> World -> Prop} (ht : tmps.getD 4 undef = .pointer (some ⟨b,0,none⟩)) (hb : W.heap[b]? = some (.cells #[x0,x1,x2,x3,x4,x5,x6,x7] t (0,0))) (hq : Q (.returned (.agg #[x0,x1,x2,x3,x4,x5,x6,x7])) W) :
 bodyPost Tryz.prog Tryz.f12 Q Exit.ret { tmps := tmps,defers := [] } W := by
 have c0 : W.cell? ⟨b,0,none⟩ = some x0 := ja hb 0 rfl
 have c1 : W.cell? ⟨b,1,none⟩ = some x1 := ja hb 1 rfl
 have c2 : W.cell? ⟨b,2,none⟩ = some x2 := ja hb 2 rfl
 have c3 : W.cell? ⟨b,3,none⟩ = some x3 := ja hb 3 rfl
 have c4 : W.cell? ⟨b,4,none⟩ = some x4 := ja hb 4 rfl
 have c5 : W.cell? ⟨b,5,none⟩ = some x5 := ja hb 5 rfl
 have c6 : W.cell? ⟨b,6,none⟩ = some x6 := ja hb 6 rfl
 have c7 : W.cell? ⟨b,7,none⟩ = some x7 := ja hb 7 rfl
 have ht' : tmps[4]?.getD undef = .pointer (some ⟨b,0,none⟩) := by simpa using ht
 exact bodyPost_ret (v := .agg #[x0,x1,x2,x3,x4,x5,x6,x7]) (by simp [results,Tryz.results12,go_sem,ht',c0,c1,c2,c3,c4,c5,c6,c7]) rfl hq
def rsO : Obj := .cells #[.int .i64 0,.int .i64 0,.int .i64 0,.slice none 0 0,.int .i64 0,.int .i64 0,.int .i64 0,.int .i64 0] 30 (0,0)
set_option maxRecDepth 100000 in
theorem jfX {b : Nat} (hb : w.heap[b]? = some (vmB none)) {n : Int} :
 Calls Tryz.prog 12 #[.pointer (some ⟨b,0,none⟩),.int .i64 n] w fun e w' => e = .returned (.agg (jW 20)) /\ Below w.heap.size w w' := by
 have c0 : w.cell? ⟨b,0,none⟩ = some (.pointer none) := ja hb 0 rfl
 have hlt := jb hb
 have HRS := jH (jg w rsO)
 have HA := jH (jr w rsO)
 unfold rsO at HRS HA
 clear hb
 go_enter Tryz.func12,Tryz.ntmps12
 go_wp2_with (first
  | (show wpList _ _ _ (Oper.mk none (Op.store 30 (.tmp 4) (.tmp 10)) _ _ _ _ :: _) _ _;refine Jv HRS.out rfl 30 (.tmp 4) (.tmp 10) rfl (jW 20) rfl rfl rfl Tryz.kiRs (jbx 20) ?_;intro w3 hb3 hl3))
 exact jcR rfl hb3 ⟨rfl,HA.out.trans (hl3.below.mono jN)⟩
set_option maxRecDepth 100000 in
theorem jfZ {half depth gr : Nat} {ins : List Int} {b r : Nat} {m : Mc} {bs : List CB} (hb : w.heap[b]? = some (vmB (some r))) (h : CR s half depth gr ins w r κ m bs) {n : Int} (hg : gr <= 65536) (hn : n < 0 \/ 65536 - (gr : Int) < n) :
 Calls Tryz.prog 12 #[.pointer (some ⟨b,0,none⟩),.int .i64 n] w fun e w' => e = .returned (.agg (jW 24)) /\ Below w.heap.size w w' := by
 have c0 : w.cell? ⟨b,0,none⟩ = some (.pointer (some ⟨r,0,none⟩)) := ja hb 0 rfl
 have hlt := jb hb
 have HRS := jH (jg w rsO)
 have HA := jH (jr w rsO)
 have HG := jH (jg4 (h.on (jr w rsO)) hg hn)
 unfold rsO at HRS HA HG
 clear hb h
 go_enter Tryz.func12,Tryz.ntmps12
 go_wp2_with (first
  | (go_at_call 18;refine HG.out.mono ?_;rintro _ w2 ⟨rfl,hb2⟩;have hrs2 := jc HRS.out hb2 (by simp);have HRS2 := jH hrs2;have HB2 := jH hb2;clear hrs2 hb2)
  | (show wpList _ _ _ (Oper.mk none (Op.store 30 (.tmp 4) (.tmp 16)) _ _ _ _ :: _) _ _;refine Jv HRS2.out rfl 30 (.tmp 4) (.tmp 16) rfl (jW 24) rfl rfl rfl Tryz.kiRs (jbx 24) ?_;intro w3 hb3 hl3))
 exact jcR rfl hb3 ⟨rfl,(HA.out.trans (HB2.out.mono HA.out.size)).trans (hl3.below.mono jN)⟩
set_option maxRecDepth 100000 in
theorem jfW (hck : Ck s) {half depth gr : Nat} {ins : List Int} (hi : ∀ z ∈ ins,-9223372036854775808 <= z /\ z <= 9223372036854775807) (hil : ins.length <= 16) (hh : half <= 2048) {b r : Nat} {m : Mc} {bs : List CB} (hb : w.heap[b]? = some (vmB (some r))) (h : CR s half depth gr ins w r κ m bs) {d : Mc} {ds : List DB} {u : Nat} (h0 : Nx s m bs d ds u) {n : Nat} (hn : gr + n <= 65536) :
 Calls Tryz.prog 12 #[.pointer (some ⟨b,0,none⟩),.int .i64 n] w (GoC s half depth (gr + n) ins w r κ m bs) := by
 have c0 : w.cell? ⟨b,0,none⟩ = some (.pointer (some ⟨r,0,none⟩)) := ja hb 0 rfl
 have hlt := jb hb
 have HRS := jH (jg w rsO)
 have HA := jH (jr w rsO)
 have HG := jH (jg3 hck hi hil hh (h.on (jr w rsO)) h0 hn)
 obtain ⟨x,hx⟩ := h.rx
 have HK : Hid (κ w.heap.size = none) := hx.top _ jN
 unfold rsO at HRS HA HG
 clear hb h hx
 go_enter Tryz.func12,Tryz.ntmps12
 go_wp2_with (first
  | (go_at_call 18;refine HG.out.mono ?_;rintro _ w2 ⟨J,mJ,bsJ,κ',v,hPC,hend,hCR,hF,rfl,hT⟩;have hrs2 := Fr.blk hF HRS.out HK.out;have hk2 := Fr.none hF HRS.out HK.out;have HRS2 := jH hrs2;have HK2 := jH hk2;have HCR := jH hCR;have HF := jH hF;have HT := jH hT;clear hrs2 hk2 hCR hF hT)
  | (show wpList _ _ _ (Oper.mk none (Op.store 30 (.tmp 4) (.tmp 16)) _ _ _ _ :: _) _ _;refine Jv HRS2.out rfl 30 (.tmp 4) (.tmp 16) rfl (jaq mJ (jJ bsJ) v) rfl rfl rfl Tryz.kiRs (jhd _ _ HT.out.one) ?_;intro w3 hb3 hl3))
 exact jcR rfl hb3 ⟨J,mJ,bsJ,κ',v,hPC,hend,HCR.out.other HK2.out hl3,Fr.new (Fr0.trans (Fr.of HA.out) HF.out) jN hl3,rfl,HT.out.on HA.out.size (by simp) hl3⟩
variable {l : List HX} {f : HX}
set_option maxRecDepth 100000 in
theorem ji2 (h : DL s w m κ Y l f) {q x y p : Nat} {u t : V} {k : Nat} (hx : Y.regs[q]? = some u) (hk : [u][k]? = some t) (ht : vb t = true) (hn : ∀ (i : Nat) (u' : V),i < k -> [u][i]? = some u' -> vb u' = false) :
 Calls Tryz.prog 19 #[.pointer (some ⟨m,0,none⟩),.agg #[.int .i64 27,.int .i64 q,.int .i64 x,.int .i64 y,.int .i64 p]] w (DOk s κ w m (jF (onD Y) 50 0)) := by
 have gq := gX8 h hx
 have HX := jH hx
 clear hx
 have HK := jH hk
 have HTT := jH ht
 have HNN := jH hn
 clear hk ht hn
 obtain ⟨c7,z7,hml,hpc,hl,HH⟩ := jL h
 clear h
 go_enter Tryz.func19,Tryz.ntmps19
 go_upto_region 2 with fail
 generalize hW : World.alloc _ _ = W
 obtain ⟨HT,g5,p5,c5,d5,n5,hg5,hmW,gl⟩ := jK HH.out hW
 clear hW c7 z7 hml
 go_region
 have hT := HT.out.drew
 clear c5 d5 n5 hg5 hmW gl HT
 generalize W.drew = W1 at hT ⊢
 obtain ⟨e0,e1,e2,e3,e4,hwl,hmW,HT⟩ := jw hT
 clear e1 e2 e3 e4
 go_wp2
 clear e0 hwl hmW
 haveI := Wd.ne
 obtain ⟨HY,f0,f1,f2,f3,f4,hmW,hwl⟩ := Je hT
 obtain ⟨g,cap,HR,hgl,c8,r1⟩ := Jd hT.dm (show (onD Y).regs.length = 8 from HH.out.hr)
 obtain ⟨sq0,sq1⟩ := jae HR HX
 clear hT
 refine JE 10 9 403 (fun b => .slice (some ⟨b,0,none⟩) 1 1) (.cells #[.bool (vb u),.int .i64 (vi u)] 89 (0,0)) _ (by kernel_rfl) (by kernel_rfl) (by kernel_rfl) (by decide) rfl rfl rfl ?_
 simp only [TkD]
 iterate 9
  apply jd (by decide) (by rfl)
  ·intro yy;go_simp;all_goals with_reducible rfl
  simp only [Act.put,SsT]
 refine Jh (by decide) (fun w => by kernel_rfl) ?_
 refine js ?_
 intro bq yy hbq hbk
 have CN := jH (jat (HY.out yy).dm (g := bq) (l := [u]) (jb hbk) (ja4 hbk) (by simp) HK.out HTT.out HNN.out)
 have hym := (HY.out yy).dm.lt
 clear f0 f1 f2 f3 f4 r1 sq0 sq1
 go_wp2_with (first
  | (go_at_call 28;refine CN.out.mono ?_;rintro _ w2 ⟨rfl,h2,f2⟩;have HM2 := jH h2;have HF2 := jH f2;clear h2 f2))
 go_returns
 exact ⟨rfl,κ,HM2.out,Fr0.trans (HY.out yy).fr HF2.out⟩
set_option maxRecDepth 100000 in
theorem ji1 (h : DL s w m κ Y l f) {q x y p : Nat} {a : Int} (hx : Y.regs[q]? = some (.n a)) (hl16 : Y.out.length = 16) :
 Calls Tryz.prog 19 #[.pointer (some ⟨m,0,none⟩),.agg #[.int .i64 27,.int .i64 q,.int .i64 x,.int .i64 y,.int .i64 p]] w (DOk s κ w m (jF (onD Y) 34 p)) := by
 have gq := gX8 h hx
 have HX := jH hx
 clear hx
 obtain ⟨c7,z7,hml,hpc,hl,HH⟩ := jL h
 clear h
 go_enter Tryz.func19,Tryz.ntmps19
 go_upto_region 2 with fail
 generalize hW : World.alloc _ _ = W
 obtain ⟨HT,g5,p5,c5,d5,n5,hg5,hmW,gl⟩ := jK HH.out hW
 clear hW c7 z7 hml
 go_region
 have hT := HT.out.drew
 clear c5 d5 n5 hg5 hmW gl HT
 generalize W.drew = W1 at hT ⊢
 obtain ⟨e0,e1,e2,e3,e4,hwl,hmW,HT⟩ := jw hT
 clear e1 e2 e3 e4
 go_wp2
 clear e0 hwl hmW
 haveI := Wd.ne
 obtain ⟨HY,f0,f1,f2,f3,f4,hmW,hwl⟩ := Je hT
 obtain ⟨g,cap,HR,hgl,c8,r1⟩ := Jd hT.dm (show (onD Y).regs.length = 8 from HH.out.hr)
 obtain ⟨sq0,sq1⟩ := JW HR HX
 clear hT
 refine JE 10 9 403 (fun b => .slice (some ⟨b,0,none⟩) 1 1) (.cells #[.bool false,.int .i64 a] 89 (0,0)) _ (by kernel_rfl) (by kernel_rfl) (by kernel_rfl) (by decide) rfl rfl rfl ?_
 simp only [TkD]
 iterate 9
  apply jd (by decide) (by rfl)
  ·intro yy;go_simp;all_goals with_reducible rfl
  simp only [Act.put,SsT]
 refine Jh (by decide) (fun w => by kernel_rfl) ?_
 refine js ?_
 intro bq yy hbq hbk
 have CN := jaT (HY.out yy) hbk
 have hT2 := HY.out yy
 clear f0 f1 f2 f3 f4 r1 sq0 sq1 HR hgl c8 hmW hwl hbk hbq HY HT
 obtain ⟨W2,hW2⟩ : ∃ W2,yy.v = W2 := ⟨_,rfl⟩
 rw [hW2] at CN hT2 ⊢
 clear hW2
 obtain ⟨hym,hyw,HT2⟩ := jaG hT2
 clear hT2
 go_upto_region 63 with (first
  | (go_at_call 28;refine CN.out.mono ?_;rintro _ w2 ⟨rfl,h2⟩;have h2 := h2.symm;subst h2))
 have hT2 := HT2.out
 clear HT2 CN hym hyw
 obtain ⟨ao,co,eo,ho⟩ := hT2.dm.rows.out.any
 rw [show (onD Y).out = Y.out from rfl,hl16] at eo
 have c13 : W2.cell? ⟨m,13,none⟩ = some (.slice ao 16 co) := by rw [<- eo];exact ja hT2.dm.mac 13 rfl
 have e4 : W2.cell? ⟨w.heap.size,4,none⟩ = some (.int .i64 p) := ja hT2.ln 4 rfl
 have hwl := jb hT2.ln
 have hmW := hT2.dm.lt
 have HT := jH hT2
 clear eo ho hl16 hT2
 go_wp2_with (first
  | (go_at_call 33;refine (Jf HT.out.dm 34 p).mono ?_;rintro _ w3 ⟨rfl,h3,f3⟩))
 go_returns
 exact ⟨rfl,κ,h3,Fr0.trans HT.out.fr f3⟩
set_option maxRecDepth 100000 in
theorem jje (h : DL s w m κ Y l f) {q x y p : Nat} {a : Int} (hx : Y.regs[q]? = some (.n a)) (hl16 : Y.out.length < 16) :
 Calls Tryz.prog 19 #[.pointer (some ⟨m,0,none⟩),.agg #[.int .i64 27,.int .i64 q,.int .i64 x,.int .i64 y,.int .i64 p]] w (fun e w' => ∃ v,DOk s κ w m (outD (onD Y) a v) e w') := by
 obtain ⟨L,hL⟩ : ∃ L,Y.out.length = L := ⟨_,rfl⟩
 have HL := jH hL
 rw [hL] at hl16
 have gne : ((L : Int) == 16) = false := by rw [beq_eq_false_iff_ne];omega
 have hmk := jiH L (by omega)
 obtain ⟨i0,hi0,hz0,hz1,hz2⟩ := info_parts Tryz.kiI
 clear hL
 have gq := gX8 h hx
 have HX := jH hx
 clear hx
 obtain ⟨c7,z7,hml,hpc,hl,HH⟩ := jL h
 clear h
 go_enter Tryz.func19,Tryz.ntmps19
 go_upto_region 2 with fail
 generalize hW : World.alloc _ _ = W
 obtain ⟨HT,g5,p5,c5,d5,n5,hg5,hmW,gl⟩ := jK HH.out hW
 clear hW c7 z7 hml
 go_region
 have hT := HT.out.drew
 clear c5 d5 n5 hg5 hmW gl HT
 generalize W.drew = W1 at hT ⊢
 obtain ⟨e0,e1,e2,e3,e4,hwl,hmW,HT⟩ := jw hT
 clear e1 e2 e3 e4
 go_wp2
 clear e0 hwl hmW
 haveI := Wd.ne
 obtain ⟨HY,f0,f1,f2,f3,f4,hmW,hwl⟩ := Je hT
 obtain ⟨g,cap,HR,hgl,c8,r1⟩ := Jd hT.dm (show (onD Y).regs.length = 8 from HH.out.hr)
 obtain ⟨sq0,sq1⟩ := JW HR HX
 clear hT
 refine JE 10 9 403 (fun b => .slice (some ⟨b,0,none⟩) 1 1) (.cells #[.bool false,.int .i64 a] 89 (0,0)) _ (by kernel_rfl) (by kernel_rfl) (by kernel_rfl) (by decide) rfl rfl rfl ?_
 simp only [TkD]
 iterate 9
  apply jd (by decide) (by rfl)
  ·intro yy;go_simp;all_goals with_reducible rfl
  simp only [Act.put,SsT]
 refine Jh (by decide) (fun w => by kernel_rfl) ?_
 refine js ?_
 intro bq yy hbq hbk
 have CN := jaT (HY.out yy) hbk
 have hT2 := HY.out yy
 clear f0 f1 f2 f3 f4 r1 sq0 sq1 HR hgl c8 hmW hwl hbk hbq HY HT
 obtain ⟨W2,hW2⟩ : ∃ W2,yy.v = W2 := ⟨_,rfl⟩
 rw [hW2] at CN hT2 ⊢
 clear hW2
 obtain ⟨hym,hyw,HT2⟩ := jaG hT2
 clear hT2
 go_upto_region 63 with (first
  | (go_at_call 28;refine CN.out.mono ?_;rintro _ w2 ⟨rfl,h2⟩;have h2 := h2.symm;subst h2))
 have hT2 := HT2.out
 clear HT2 CN hym hyw
 obtain ⟨ao,co,eo,ho⟩ := hT2.dm.rows.out.any
 rw [show (onD Y).out = Y.out from rfl,HL.out] at eo ho
 have HEO := jH eo
 clear eo
 have c13 : W2.cell? ⟨m,13,none⟩ = some (.slice ao L co) := by rw [<- HEO.out];exact ja hT2.dm.mac 13 rfl
 have hmW := hT2.dm.lt
 have HT := jH hT2
 clear hT2
 go_wp2
 go_region
 have hB3 := (jr W2 (.cells (Array.replicate (L + 1) (Value.int .i64 0)) 3 (0,0))).drew
 have hZ3 : ((W2.alloc (.cells (Array.replicate (L + 1) (Value.int .i64 0)) 3 (0,0))).drew).heap[W2.heap.size]? = some (.cells (List.replicate (L + 1) (Value.int .i64 0)).toArray 3 (0,0)) := by
  rw [List.toArray_replicate]
  exact jg W2 (.cells (Array.replicate (L + 1) (Value.int .i64 0)) 3 (0,0))
 clear c13 hmW
 obtain ⟨nb,hnb⟩ : ∃ nb,W2.heap.size = nb := ⟨_,rfl⟩
 rw [hnb] at hZ3
 generalize (W2.alloc (.cells (Array.replicate (L + 1) (Value.int .i64 0)) 3 (0,0))).drew = W3 at hB3 hZ3 ⊢
 rw [hnb]
 have hT3 := HT.out.on hB3
 have c13 : W3.cell? ⟨m,13,none⟩ = some (.slice ao L co) := by rw [<- HEO.out];exact ja hT3.dm.mac 13 rfl
 have hmW := hT3.dm.lt
 have HB3 := jH hB3
 have HZ3 := jH hZ3
 have HSR : Hid (0 < (iV Y.out).length -> (some ⟨nb,0,none⟩ : Option Addr) = some ⟨nb,0,none⟩ /\ ∃ ad,ao = some ad /\ ∀ j v,(iV Y.out)[j]? = some v -> W3.cell? (ad.add j) = some v) := fun hp => by
  rw [jah] at hp
  have hTo := hT3.dm.rows.out
  obtain ⟨go,c',e',_⟩ := hTo.at hp
  rw [show (onD Y).out = Y.out from rfl,HL.out] at e'
  have e7 := HEO.out.symm.trans e'
  cases e7
  rw [e',<- HL.out] at hTo
  exact ⟨rfl,_,rfl,fun j v hj => by rw [add0];exact hTo.cell hj⟩
 clear hB3 hZ3 hT3
 go_wp2_with (first
  | (show wpList _ _ _ (Oper.mk (some 438) (Op.call { callee := .builtin .copy,args := #[.tmp 432,.tmp 437],argTypes := #[22,22] }) _ _ _ _ :: _) _ _;go_loud (refine wpList_copy_splice rfl (.tmp 432) (.tmp 437) 22 22 rfl 3 Tryz.kuI Tryz.kiIs (some ⟨nb,0,none⟩) ao L (L + 1) L co rfl rfl nb 0 (List.replicate (L + 1) (Value.int .i64 0)) 3 HZ3.out (iV Y.out) (by rw [jah,HL.out];exact (Nat.min_self _).symm) HSR.out (by rw [jah,HL.out];simp) (jcm _) nb W3 jB jN ?_;intro w5 hg5 hb5)))
 have hB5 : Below W2.heap.size W2 w5 := by rw [hnb] at HB3 ⊢;exact HB3.out.trans hb5
 have hT5 := HT.out.on hB5
 have HB5 := jH hB5
 have HT5 := jH hT5
 have hO5 : w5.ownsRow 0 3 1 (.slice (some ⟨nb,0,none⟩) L (L + 1)) L (iV Y.out) := by
  refine ⟨by rw [jah,HL.out];simp,.inr ⟨nb,L + 1,(splice (List.replicate (L + 1) (Value.int .i64 0)) 0 (iV Y.out)).toArray,rfl,Nat.zero_le _,hg5.out,Nat.le_succ _,by unfold maxLen;omega,?_,?_⟩⟩
  ·unfold splice;simp [jah,HL.out]
  ·unfold splice;simp [jah,HL.out]
 have HO5 := jH hO5
 obtain ⟨g,cap,_,hgl,c8,r1,r2,_⟩ := JV hT5.dm (show (onD Y).regs.length = 8 from HH.out.hr)
 obtain ⟨sq0,sq1⟩ := r2 q _ HX.out
 simp only [vb,vi] at sq0 sq1
 have e1 : w5.cell? ⟨w.heap.size,1,none⟩ = some (.int .i64 q) := ja hT5.ln 1 rfl
 have hwl := jb hT5.ln
 have hm5 := hT5.dm.lt
 have hs5 := hB5.size
 have HOW : Hid (((w5.alloc (.cells #[.int .i64 a] 3 (0,0))).drew).ownsRow 0 3 1 (.slice (some ⟨nb,0,none⟩) L (L + 1)) L (iV Y.out)) := hO5.alloc _
 clear hg5 hb5 hB5 hT5 hO5 r2 c13 hmW
 go_region_law ((refine step_append_lies _ (by rfl) (.tmp 440) (.tmp 450) 22 (by rfl) 0 3 i0 _ 1 8 Tryz.kuI hi0 hz0 hz1 hz2 rfl (by decide) (.slice (some ⟨nb,0,none⟩) L (L + 1)) L (iV Y.out) (by rfl) HOW.out ⟨w5.heap.size,0,none⟩ 1 1 [.int .i64 a] (by rfl) (by rfl) (Ja _ _ _ _ rfl) (by intro u hu;rw [List.mem_singleton] at hu;subst hu;rfl) (by decide) (by unfold maxLen;omega) (by omega) (Nat.zero_le _) _ rfl ?_;intro gn cn w6 hown6 hgrow6 hat6 hlt6;have hN := jie HT.out.dm HB5.out (jr w5 (.cells #[.int .i64 a] 3 (0,0))).drew hgrow6 hnb HL.out hown6 hat6 hlt6 (by first | omega | (simp;done) | (simp;omega));have HN := jH hN;have hr6 := hN.mac6;have p13 : w6.cell? ⟨m,13,none⟩ = some (.slice ao L co) := (by rw [<- HEO.out];exact ja hr6 13 rfl);have y13 := je hr6 13;have hm6 := jb hr6;clear hN hr6 hown6 hgrow6 hat6))
 all_goals
  go_wp2
  go_returns
  exact ⟨_,rfl,_,HN.out.dm,Fr0.trans HT.out.fr HN.out.fr⟩
theorem jcy {W : World} {tmps : Array Value} {b : Nat} {x0 x1 x2 x3 x4 x5 x6 x7 : Value} {t : TypeId} {Q : Ending -> World -> Prop} (ht : tmps.getD 4 undef = .pointer (some ⟨b,0,none⟩)) (hb : W.heap[b]? = some (.cells #[x0,x1,x2,x3,x4,x5,x6,x7] t (0,0))) (hq : Q (.returned (.agg #[x0,x1,x2,x3,x4,x5,x6,x7])) W) :
 bodyPost Tryz.prog Tryz.f13 Q Exit.ret { tmps := tmps,defers := [] } W := by
 have c0 : W.cell? ⟨b,0,none⟩ = some x0 := ja hb 0 rfl
 have c1 : W.cell? ⟨b,1,none⟩ = some x1 := ja hb 1 rfl
 have c2 : W.cell? ⟨b,2,none⟩ = some x2 := ja hb 2 rfl
 have c3 : W.cell? ⟨b,3,none⟩ = some x3 := ja hb 3 rfl
 have c4 : W.cell? ⟨b,4,none⟩ = some x4 := ja hb 4 rfl
 have c5 : W.cell? ⟨b,5,none⟩ = some x5 := ja hb 5 rfl
 have c6 : W.cell? ⟨b,6,none⟩ = some x6 := ja hb 6 rfl
 have c7 : W.cell? ⟨b,7,none⟩ = some x7 := ja hb 7 rfl
 have ht' : tmps[4]?.getD undef = .pointer (some ⟨b,0,none⟩) := by simpa using ht
 exact bodyPost_ret (v := .agg #[x0,x1,x2,x3,x4,x5,x6,x7]) (by simp [results,Tryz.results13,go_sem,ht',c0,c1,c2,c3,c4,c5,c6,c7]) rfl hq
def DR (s : ByteArray) (half depth gr : Nat) (ins : List Int) (w : World) (m : Nat) (κ : Kp) (d : Mc) (ds : List DB) (u : Nat) : Prop :=
 ∃ Y,DM s w m κ Y /\ d = jl Y /\ ds = dsD Y /\ u = Y.x.used /\ Y.x.fuel = gr /\ Y.out.length <= 16 /\ (Y.x.err = 42 -> DI half depth gr ins Y)
theorem DR.on {half depth gr : Nat} {ins : List Int} {w w' : World} {d : Mc} {ds : List DB} {u : Nat} (h : DR s half depth gr ins w m κ d ds u) (hb : Below w.heap.size w w') : DR s half depth gr ins w' m κ d ds u := by
 obtain ⟨Y,h1,h2⟩ := h
 exact ⟨Y,h1.on hb,h2⟩
theorem DR.other {half depth gr : Nat} {ins : List Int} {w w' : World} {d : Mc} {ds : List DB} {u : Nat} (h : DR s half depth gr ins w m κ d ds u) {b : Nat} (hk : κ b = none) (hl : Lone b w w') : DR s half depth gr ins w' m κ d ds u := by
 obtain ⟨Y,h1,h2⟩ := h
 exact ⟨Y,h1.other hk hl,h2⟩
theorem DR.give {half depth gr : Nat} {ins : List Int} {d : Mc} {ds : List DB} {u : Nat} (h : DR s half depth gr ins w m κ d ds u) (gr' : Nat) : DR s half depth gr' ins (w.setCell ⟨m,8,none⟩ (.int .i64 gr')) m κ d ds u /\ Fr0 κ κ w (w.setCell ⟨m,8,none⟩ (.int .i64 gr')) := by
 obtain ⟨Y,h1,rfl,rfl,rfl,h3,h4,h5⟩ := h
 have hL : Lone m w (w.setCell ⟨m,8,none⟩ (.int .i64 gr')) := (Lone.refl _ _).set 8 _
 refine ⟨⟨_,h1.upd (x' := { Y.x with fuel := gr' }) (jf h1.mac 8 _) hL rfl,rfl,rfl,rfl,rfl,h4,fun he => ?_⟩,h1.low hL⟩
 have h := h5 he
 exact ⟨h.words,h.hm,h.depth,h.dm,rfl,h.ins,h.sm,h.dlen,h.gcs,h.rl,h.rv,h.sv,h.fv,h.fl,h.sl,h.fs,h.out,h.rd⟩
set_option maxRecDepth 100000 in
theorem jkX {half depth gr : Nat} {ins : List Int} {d : Mc} {ds : List DB} {u : Nat} (h : DR s half depth gr ins w m κ d ds u) {n : Int} (hg : gr <= 65536) (hn : n < 0 \/ 65536 - (gr : Int) < n) :
 Calls Tryz.prog 13 #[.pointer (some ⟨m,0,none⟩),.int .i64 n] w fun e w' => e = .returned (.agg (jW 24)) /\ Below w.heap.size w w' := by
 obtain ⟨Y,h1,_,_,_,h3,_⟩ := h
 have c8 : w.cell? ⟨m,8,none⟩ = some (.int .i64 gr) := by rw [<- h3];exact ja h1.mac 8 rfl
 have c0 : w.cell? ⟨m,0,none⟩ = some (.pointer (some ⟨Y.x.q,0,none⟩)) := ja h1.mac 0 rfl
 have hlt := h1.lt
 clear h1 h3
 obtain ⟨b1,h1⟩ : ∃ b1,decide (n < (0 : Int)) = b1 := ⟨_,rfl⟩
 obtain ⟨b2,h2⟩ : ∃ b2,decide ((65536 : Int) - (gr : Int) < n) = b2 := ⟨_,rfl⟩
 have hb : (b1 || b2) = true := by rw [<- h1,<- h2];simpa using hn
 clear hn
 have HB := jH hb
 clear hb
 have HRS := jH (jg w (.cells #[.int .i64 0,.int .i64 0,.int .i64 0,.slice none 0 0,.int .i64 0,.int .i64 0,.int .i64 0,.int .i64 0] 30 (0,0)))
 have HA := jH (jr w (.cells #[.int .i64 0,.int .i64 0,.int .i64 0,.slice none 0 0,.int .i64 0,.int .i64 0,.int .i64 0,.int .i64 0] 30 (0,0)))
 cases b1 <;> cases b2 <;> first | (exfalso;exact absurd HB.out (by decide)) | (
  go_enter Tryz.func13,Tryz.ntmps13
  go_wp2_with (first
   | (show wpList _ _ _ (Oper.mk none (Op.store 30 (.tmp 4) (.tmp 23)) _ _ _ _ :: _) _ _;refine Jv HRS.out rfl 30 (.tmp 4) (.tmp 23) rfl (jW 24) rfl rfl rfl Tryz.kiRs (jbx 24) ?_;intro w3 hb3 hl3))
  exact jcy rfl hb3 ⟨rfl,HA.out.trans (hl3.below.mono jN)⟩)
set_option maxRecDepth 100000 in
theorem jkW (hc : w.cell? ⟨m,0,none⟩ = some (.pointer none)) (hlt : m < w.heap.size) {n : Int} :
 Calls Tryz.prog 13 #[.pointer (some ⟨m,0,none⟩),.int .i64 n] w fun e w' => e = .returned (.agg (jW 20)) /\ Below w.heap.size w w' := by
 have HRS := jH (jg w (.cells #[.int .i64 0,.int .i64 0,.int .i64 0,.slice none 0 0,.int .i64 0,.int .i64 0,.int .i64 0,.int .i64 0] 30 (0,0)))
 have HA := jH (jr w (.cells #[.int .i64 0,.int .i64 0,.int .i64 0,.slice none 0 0,.int .i64 0,.int .i64 0,.int .i64 0,.int .i64 0] 30 (0,0)))
 go_enter Tryz.func13,Tryz.ntmps13
 go_wp2_with (first
  | (show wpList _ _ _ (Oper.mk none (Op.store 30 (.tmp 4) (.tmp 11)) _ _ _ _ :: _) _ _;refine Jv HRS.out rfl 30 (.tmp 4) (.tmp 11) rfl (jW 20) rfl rfl rfl Tryz.kiRs (jbx 20) ?_;intro w3 hb3 hl3))
 exact jcy rfl hb3 ⟨rfl,HA.out.trans (hl3.below.mono jN)⟩
end Ko
end Go.Proofs.YtjmgolahkgalbaaGreatDoor
