import Derived.Test.YtmkdoejpgkgpbaaGreatDoorS30
import Derived.Test.YtmkdoejpgkgpbaaGreatDoorS31
import Derived.Shelf.Strconv.Itoa0
import Derived.Shelf.Strconv.Itoa1
import Derived.Shelf.LaysM
import Derived.Shelf.Strconv.Itoa2
import Derived.Shelf.Strconv.Itoa3
import Derived.Test.YtmkdoejpgkgpbaaGreatDoorProg
import Derived.Lib.AppendStr
import Derived.Deep.Draws
import Derived.Deep.QuietTactic
import Derived.BigQuiet
import Derived.Deep.LoopGhost
set_option linter.unusedVariables false
set_option linter.unusedSimpArgs false
set_option maxHeartbeats 20000000
namespace Go.Proofs.YtmkdoejpgkgpbaaGreatDoor
open Go.RowKit Sl
theorem blk_new' {w : World} {o : Obj} {b : Nat} (h : b = w.heap.size) : (w.alloc o).heap[b]? = some o := by
 rw [h];exact blk_new w o
theorem root_any {a : Option Addr} {n c : Nat} (hn1 : 1 <= n) (hn : n <= 100000) (w : World) :
 Calls Tryz.prog 106 #[.agg #[.slice a n c]] w fun e w' => e = .returned (.int .i64 ((n - 1 : Nat) : Int)) /\ Below w.heap.size w w' := by
 obtain ⟨m,rfl⟩ : ∃ m,n = m + 1 := ⟨n - 1,by omega⟩
 go_enter Tryz.func106,Tryz.ntmps106
 go_wp2
 go_ret
 exact ⟨rfl,(Below.refl _ _).alloc (Nat.le_refl _) _⟩
theorem part_ret {W : World} {tmps : Array Value} {r : Nat} {x0 x1 x2 x3 x4 x5 : Value} {Q : Ending -> World -> Prop} (ht : tmps.getD 4 undef = .pointer (some ⟨r,0,none⟩)) (hb : W.heap[r]? = some (.cells #[x0,x1,x2,x3,x4,x5] 302 (0,0))) (hq : Q (.returned (.agg #[x0,x1,x2,x3,x4,x5])) W) :
 bodyPost Tryz.prog Tryz.f178 Q Exit.ret { tmps := tmps,defers := [] } W := by
 have c0 := blk_at hb 0 rfl
 have c1 := blk_at hb 1 rfl
 have c2 := blk_at hb 2 rfl
 have c3 := blk_at hb 3 rfl
 have c4 := blk_at hb 4 rfl
 have c5 := blk_at hb 5 rfl
 simp only [List.getElem_toArray,List.getElem_cons_zero,List.getElem_cons_succ] at c0 c1 c2 c3 c4 c5
 have ht' : tmps[4]?.getD undef = .pointer (some ⟨r,0,none⟩) := by simpa using ht
 exact bodyPost_ret (v := .agg #[x0,x1,x2,x3,x4,x5]) (by simp [results,Tryz.results178,go_sem,ht',c0,c1,c2,c3,c4,c5]) rfl hq
set_option maxRecDepth 100000 in
theorem treePart_any {w : World} {base i : Nat} {pv : Value} {ps : List CP} {vs : List (Value × Value)} (hn : ps.length <= 100000) (hps : PsAt w base pv ps vs) (hi : i < ps.length) (hi' : i < vs.length) :
 Calls Tryz.prog 178 #[.agg #[pv],.int .i64 i] w fun e w' => e = .returned (.agg #[.int .i64 ps[i].k,.int .i64 ps[i].a,.int .i64 ps[i].wd,.int .i64 ps[i].nm,vs[i].1,vs[i].2]) /\ Below w.heap.size w w' := by
 obtain ⟨g,c,e1,e2,e3,e4,e5⟩ := hps.cell hi
 have e5 := e5 hi'
 have hr := hps.rows i hi hi'
 obtain ⟨x1,y1,hsl1⟩ := own_slice hr.names
 obtain ⟨x2,y2,hsl2⟩ := own_slice hr.kids
 clear hr
 generalize ps[i].ns.length = l1 at hsl1
 generalize ps[i].ks.length = l2 at hsl2
 obtain ⟨q,hq⟩ : ∃ q,ps[i] = q := ⟨_,rfl⟩
 obtain ⟨⟨v1,v2⟩,hv⟩ : ∃ v,vs[i] = v := ⟨_,rfl⟩
 obtain ⟨k,a,wd,nm,ns,ks⟩ := q
 rw [hq,hv] at e5 ⊢
 rw [hv] at hsl1 hsl2
 simp only at hsl1 hsl2
 subst hsl1 hsl2
 obtain ⟨n,hnn⟩ : ∃ n,ps.length = n := ⟨_,rfl⟩
 rw [hnn] at e1 e4 hn hi
 have d0 : w.cell? ⟨g,i * 6,none⟩ = some (.int .i64 k) := e5 0 (by omega)
 have d1 : w.cell? ⟨g,i * 6 + 1,none⟩ = some (.int .i64 a) := e5 1 (by omega)
 have d2 : w.cell? ⟨g,i * 6 + 2,none⟩ = some (.int .i64 wd) := e5 2 (by omega)
 have d3 : w.cell? ⟨g,i * 6 + 3,none⟩ = some (.int .i64 nm) := e5 3 (by omega)
 have d4 : w.cell? ⟨g,i * 6 + 4,none⟩ = some (.slice x1 l1 y1) := e5 4 (by omega)
 have d5 : w.cell? ⟨g,i * 6 + 5,none⟩ = some (.slice x2 l2 y2) := e5 5 (by omega)
 subst e1
 have hd : decide ((i : Int) < 0) = false := by simp
 have hd2 : decide ((n : Int) <= (i : Int)) = false := by simp;omega
 have hd3 : ((i : Int) < (n : Int)) := by omega
 clear e5 hps hq hv hnn hi'
 go_enter Tryz.func178,Tryz.ntmps178
 go_wp2
 refine part_ret rfl (by exact blk_new' (by simp)) ⟨rfl,?_⟩
 exact ((Below.refl _ _).alloc (Nat.le_refl _) _).alloc (by rw [World.size_alloc];omega) _
theorem fld_part5 (a b c d : Int) (x y : Option Addr) (l m n o : Nat) (w : World) : Sem.run Tryz.prog (Instr.field 302 (.agg #[.int .i64 a,.int .i64 b,.int .i64 c,.int .i64 d,.slice x l m,.slice y n o]) 5) w = .ok (.slice y n o) w := by kernel_rfl
set_option maxRecDepth 100000 in
theorem treeKid_any {w : World} {base i j kd : Nat} {pv : Value} {ps : List CP} {vs : List (Value × Value)} (hn : ps.length <= 100000) (hps : PsAt w base pv ps vs) (hi : i < ps.length) (hj : ps[i].ks[j]? = some (kd : Int)) (hl : ps[i].ks.length <= 100000) (hkd : kd < i) :
 Calls Tryz.prog 219 #[.agg #[pv],.int .i64 i,.int .i64 j] w fun e w' => e = .returned (.int .i64 kd) /\ Below w.heap.size w w' := by
 have hi' : i < vs.length := by rw [hps.len];exact hi
 have hjl : j < ps[i].ks.length := by
  rcases Nat.lt_or_ge j ps[i].ks.length with h | h
  ·exact h
  ·rw [List.getElem?_eq_none h] at hj;cases hj
 have hr := hps.rows i hi hi'
 obtain ⟨g,c,hk2,hg1,hg2,hg3,hg4⟩ := own_shapeP hr.kids (by omega)
 have hb : Below w.heap.size w (w.alloc (.cells #[pv] 105)) := (Below.refl _ _).alloc (Nat.le_refl _) _
 have HP : Hid (Calls Tryz.prog 178 #[.agg #[pv],.int .i64 i] (w.alloc (.cells #[pv] 105)) fun e w' => e = .returned (.agg #[.int .i64 ps[i].k,.int .i64 ps[i].a,.int .i64 ps[i].wd,.int .i64 ps[i].nm,vs[i].1,vs[i].2]) /\ Below (w.alloc (.cells #[pv] 105)).heap.size (w.alloc (.cells #[pv] 105)) w') := treePart_any hn (hps.below hb) hi hi'
 have hc : w.cell? ⟨g,j,none⟩ = some (.int .i64 kd) := by
  have ho := hr.kids
  rw [hk2] at ho
  rw [ho.cellAt j (by omega),List.getElem?_map,hj];rfl
 obtain ⟨a1,c1,hpv⟩ := own_slice hps.own
 rw [hk2] at HP
 obtain ⟨x4,y4,hx⟩ := own_slice hr.names
 rw [hx] at HP
 generalize (ps[i].k : Int) = f0 at HP
 generalize (ps[i].a : Int) = f1 at HP
 generalize (ps[i].wd : Int) = f2 at HP
 generalize ps[i].nm = f3 at HP
 generalize ps[i].ns.length = l4 at HP hx
 obtain ⟨n,hnn⟩ : ∃ n,ps[i].ks.length = n := ⟨_,rfl⟩
 rw [hnn] at HP hjl hg3 hl
 have hf := fld_part5 f0 f1 f2 f3 x4 (some ⟨g,0,none⟩) l4 y4 n c
 have hd : decide ((j : Int) < 0) = false := by simp
 have hd2 : decide ((n : Int) <= (j : Int)) = false := by simp;omega
 have hd3 : ((j : Int) < (n : Int)) := by omega
 have hd4 : decide ((i : Int) <= (kd : Int)) = false := by simp;omega
 subst hpv
 clear hps hr hk2 hb hx hnn hj hn hi'
 go_enter Tryz.func219,Tryz.ntmps219
 go_wp2_with (go_at_call 178;refine HP.out.mono ?_;rintro _ w1 ⟨rfl,hb1⟩;rw [World.size_alloc] at hb1;have hc1 : w1.cell? ⟨g,j,none⟩ = some (.int .i64 kd) := (hb1.cell (p := ⟨g,j,none⟩) (by show g < _;omega)).trans ((World.cell?_of_block (Below.heap_alloc _ _ _ hg2)).trans hc))
 go_ret
 exact ⟨rfl,by first | exact ((Below.refl _ _).alloc (Nat.le_refl _) _).trans (hb1.mono (by omega)) | exact (((Below.refl _ _).alloc (Nat.le_refl _) _).trans (hb1.mono (by omega))).drew⟩
end Go.Proofs.YtmkdoejpgkgpbaaGreatDoor
namespace Go.Proofs
open Go.Shelf
def Tryz.laysM171_ren : Go.Shelf.Ren := ⟨fun | 171 => 238 | 243 => 311 | 246 => 358 | 283 => 385 | 284 => 386 | 285 => 387 | 286 => 388 | 129 => 404 | 317 => 403 | 318 => 405 | 319 => 406 | 320 => 407 | 337 => 411 | 338 => 412 | n => n,fun | 3 => 3 | 9 => 9 | 2 => 2 | 4 => 4 | 171 => 437 | 0 => 0 | 53 => 323 | 37 => 182 | 5 => 5 | 173 => 440 | 212 => 452 | 51 => 453 | 20 => 20 | 213 => 454 | 46 => 181 | 232 => 457 | 233 => 458 | n => n,fun | 17 => 3 | 18 => 4 | 19 => 5 | n => n⟩
theorem Tryz.laysM171 : Go.Proofs.LaysM.n171 Tryz.prog Tryz.laysM171_ren := {
 mixed := by kernel_rfl
 f129 := Tryz.func404.trans (congrArg some (by kernel_rfl))
 f171 := Tryz.func238.trans (congrArg some (by kernel_rfl))
 f243 := Tryz.func311.trans (congrArg some (by kernel_rfl))
 f246 := Tryz.func358.trans (congrArg some (by kernel_rfl))
 f283 := Tryz.func385.trans (congrArg some (by kernel_rfl))
 f284 := Tryz.func386.trans (congrArg some (by kernel_rfl))
 f285 := Tryz.func387.trans (congrArg some (by kernel_rfl))
 f286 := Tryz.func388.trans (congrArg some (by kernel_rfl))
 f317 := Tryz.func403.trans (congrArg some (by kernel_rfl))
 f318 := Tryz.func405.trans (congrArg some (by kernel_rfl))
 f319 := Tryz.func406.trans (congrArg some (by kernel_rfl))
 f320 := Tryz.func407.trans (congrArg some (by kernel_rfl))
 f337 := Tryz.func411.trans (congrArg some (by kernel_rfl))
 f338 := Tryz.func412.trans (congrArg some (by kernel_rfl))
 t0 := Tryz.underlying0
 a0 := Tryz.isAgg0
 z0 := Tryz.sizeOf0
 v0 := Tryz.zeroValue0
 t2 := Tryz.underlying2
 a2 := Tryz.isAgg2
 z2 := Tryz.sizeOf2
 v2 := Tryz.zeroValue2
 t3 := Tryz.underlying3
 a3 := Tryz.isAgg3
 z3 := Tryz.sizeOf3
 v3 := Tryz.zeroValue3
 t4 := Tryz.underlying4
 a4 := Tryz.isAgg4
 z4 := Tryz.sizeOf4
 v4 := Tryz.zeroValue4
 t5 := Tryz.underlying5
 a5 := Tryz.isAgg5
 z5 := Tryz.sizeOf5
 v5 := Tryz.zeroValue5
 t9 := Tryz.underlying9
 a9 := Tryz.isAgg9
 z9 := Tryz.sizeOf9
 v9 := Tryz.zeroValue9
 t20 := Tryz.underlying20
 a20 := Tryz.isAgg20
 z20 := Tryz.sizeOf20
 v20 := Tryz.zeroValue20
 t37 := Tryz.underlying182
 a37 := Tryz.isAgg182
 z37 := Tryz.sizeOf182
 v37 := Tryz.zeroValue182
 t46 := Tryz.underlying181
 a46 := Tryz.isAgg181
 z46 := Tryz.sizeOf181
 v46 := Tryz.zeroValue181
 t51 := Tryz.underlying453
 a51 := Tryz.isAgg453
 z51 := Tryz.sizeOf453
 v51 := Tryz.zeroValue453
 t53 := Tryz.underlying323
 a53 := Tryz.isAgg323
 z53 := Tryz.sizeOf323
 v53 := Tryz.zeroValue323
 t171 := Tryz.underlying437
 a171 := Tryz.isAgg437
 z171 := Tryz.sizeOf437
 v171 := Tryz.zeroValue437
 t173 := Tryz.underlying440
 a173 := Tryz.isAgg440
 z173 := Tryz.sizeOf440
 v173 := Tryz.zeroValue440
 t212 := Tryz.underlying452
 a212 := Tryz.isAgg452
 z212 := Tryz.sizeOf452
 v212 := Tryz.zeroValue452
 t213 := Tryz.underlying454
 a213 := Tryz.isAgg454
 z213 := Tryz.sizeOf454
 t232 := Tryz.underlying457
 a232 := Tryz.isAgg457
 z232 := Tryz.sizeOf457
 v232 := Tryz.zeroValue457
 t233 := Tryz.underlying458
 a233 := Tryz.isAgg458
 z233 := Tryz.sizeOf458
 v233 := Tryz.zeroValue458
 g17 := by kernel_rfl
 g18 := by kernel_rfl
 g19 := by kernel_rfl
 i0 := by kernel_rfl
 i2 := by kernel_rfl
 i3 := by kernel_rfl
 i4 := by kernel_rfl
 i5 := by kernel_rfl
 i9 := by kernel_rfl
 i20 := by kernel_rfl
 i37 := by kernel_rfl
 i46 := by kernel_rfl
 i51 := by kernel_rfl
 i53 := by kernel_rfl
 i171 := by kernel_rfl
 i173 := by kernel_rfl
 i212 := by kernel_rfl
 i232 := by kernel_rfl
 i233 := by kernel_rfl
 m17 := by kernel_rfl
 m18 := by kernel_rfl
 m19 := by kernel_rfl }
open Go.RowKit Go.Sort Go.Lib in
theorem Tryz.strconv_Itoa (n : Int) (h0 : -9223372036854775808 <= n) (h1 : n <= 9223372036854775807) (w : World) (htab : Lib.TabIs Tryz.prog w "internal/strconv.uint64pow10" .u64 Lib.pow10Tab) :
 Calls Tryz.prog 238 #[.int .i64 n] w fun e w' => e = .returned (.string ⟨(Lib.itoa n).toArray⟩) /\ ∃ k os,w' = grow (w.drewN k) os := Any.strconv_Itoa Tryz.laysM171 n h0 h1 w htab
end Go.Proofs
namespace Go.Proofs.YtmkdoejpgkgpbaaGreatDoor
open Go.RowKit Sl
theorem Tryz.infB : (Tryz.prog.info? 5).map (fun i => (i.zero,i.size,i.bytes)) = some (some (.int .u8 0),1,1) := by kernel_rfl
theorem Tryz.undB : Tryz.prog.underlying 182 = some (.slice 5) := by kernel_rfl
def blank : ByteArray := ⟨#[32]⟩
def hdL (x : ByteArray) : Bool := match D x with
 | [] => false
 | c :: _ => letB c
def lsL (x : ByteArray) : Bool := match (D x).getLast? with
 | none => false
 | some c => letB c
def wr1 (o x : ByteArray) : ByteArray := if D x = [] then o else (if (lsL o && hdL x) = true then o ++ blank else o) ++ x
theorem strC_app (a b : ByteArray) : Lib.strCells (a ++ b) = Lib.strCells a ++ Lib.strCells b := by simp [Lib.strCells]
theorem wr1_size (o x : ByteArray) : o.size <= (wr1 o x).size /\ (wr1 o x).size <= o.size + 1 + x.size := by
 have h1 : blank.size = 1 := rfl
 unfold wr1
 split
 ·omega
 ·split <;> simp only [ByteArray.size_append] <;> omega
structure WE (w0 : World) (p base : Nat) (pv : Value) (ps : List CP) (vs : List (Value × Value)) : Prop where
 pt : PsAt w0 base pv ps vs
 lt : w0.heap.size <= p
 tx : TX w0
 g0 : 2 < w0.heap.size
 tab : ∀ w',Below w0.heap.size w0 w' -> Lib.TabIs Tryz.prog w' "internal/strconv.uint64pow10" .u64 Lib.pow10Tab
 len : ps.length <= 90000
structure WM (w0 w : World) (p : Nat) (pv ov : Value) (o : ByteArray) : Prop where
 blk : w.heap[p]? = some (.cells #[pv,ov] 189 (0,0))
 own : w.ownsRow (p + 1) 5 1 ov o.size (Lib.strCells o)
 bel : Below p w0 w
structure WF (p : Nat) (w w' : World) : Prop where
 below : Below p w w'
 size : w.heap.size <= w'.heap.size
 rest : ∀ (b : Nat) (arr : Array Value) (t : TypeId),w.heap[b]? = some (.cells arr t (0,0)) -> b ≠ p -> t ≠ 5 -> w'.heap[b]? = some (.cells arr t (0,0))
theorem WF.refl (p : Nat) (w : World) : WF p w w := ⟨Below.refl _ _,Nat.le_refl _,fun _ _ _ h _ _ => h⟩
theorem WF.trans {p : Nat} {w1 w2 w3 : World} (h : WF p w1 w2) (h' : WF p w2 w3) : WF p w1 w3 := ⟨h.below.trans h'.below,Nat.le_trans h.size h'.size,fun b arr t h1 h2 h3 => h'.rest b arr t (h.rest b arr t h1 h2 h3) h2 h3⟩
theorem WF.of {p : Nat} {w w' : World} (hb : Below w.heap.size w w') (hp : p <= w.heap.size) : WF p w w' := ⟨hb.mono hp,hb.size,fun b arr t h1 _ _ => (hb.block b (lt_of_block h1)).trans h1⟩
section
variable {w0 w w' : World} {p base : Nat} {pv ov : Value} {ps : List CP} {vs : List (Value × Value)} {o : ByteArray}
theorem WM.below (h : WM w0 w p pv ov o) (hb : Below w.heap.size w w') : WM w0 w' p pv ov o :=
 ⟨blk_below h.blk hb (lt_of_block h.blk),own_block_keep h.own fun b hb2 => hb.block b (h.own.lt b hb2).2,h.bel.trans (hb.mono (Nat.le_of_lt (lt_of_block h.blk)))⟩
theorem WM.al (h : WM w0 w p pv ov o) (x : Obj) : WM w0 (w.alloc x) p pv ov o := h.below ((Below.refl _ _).alloc (Nat.le_refl _) _)
theorem WM.fr (h : WM w0 w p pv ov o) (hb : Below w.heap.size w w') : WF p w w' := WF.of hb (Nat.le_of_lt (lt_of_block h.blk))
theorem WM.row (h : WM w0 w p pv ov o) : ∀ b,w.heap.size <= b -> ov.ownBlock ≠ some b := fun b hb h2 => by
 have := h.own.lt b h2;omega
theorem WM.tx (h : WM w0 w p pv ov o) (E : WE w0 p base pv ps vs) : TX w := E.tx.below h.bel (Nat.lt_of_lt_of_le E.g0 E.lt)
theorem WM.pt (h : WM w0 w p pv ov o) (E : WE w0 p base pv ps vs) : PsAt w base pv ps vs := E.pt.below (h.bel.mono E.lt)
theorem WM.tab (h : WM w0 w p pv ov o) (E : WE w0 p base pv ps vs) : Lib.TabIs Tryz.prog w "internal/strconv.uint64pow10" .u64 Lib.pow10Tab := E.tab w (h.bel.mono E.lt)
theorem bdrew (w : World) (k : Nat) : Below w.heap.size w (w.drewN k) := ⟨rfl,rfl,rfl,Nat.le_refl _,fun _ _ => rfl⟩
theorem tag_ne {w : World} {B n size b : Nat} {e e' : TypeId} {v : Value} {xs : List Value} {arr : Array Value} (h : w.ownsRow B e size v n xs) (hb : w.heap[b]? = some (.cells arr e' (0,0))) (he : e' ≠ e) : v.ownBlock ≠ some b := fun h2 => by
 rcases h.2 with ⟨h1,_⟩ | ⟨g,cap,cur,h1,_,h3,_⟩
 ·rw [h1] at h2;cases h2
 ·rw [h1] at h2
  injection h2 with h2
  have h2' : g = b := h2
  subst h2'
  rw [h3] at hb
  injection hb with hb
  injection hb with _ hb _
  exact he hb.symm
theorem WM.put {v' : Value} {o' : ByteArray} {W w1 : World} (h : WM w0 w p pv ov o) (hW : Below w.heap.size w W) (hg : W.grownBy w1 ov.ownBlock) (hown : w1.ownsRow (p + 1) 5 1 v' o'.size (Lib.strCells o')) :
 WM w0 (w1.setCell ⟨p,1,none⟩ v') p pv v' o' /\ WF p w (w1.setCell ⟨p,1,none⟩ v') /\ w1.heap[p]? = some (.cells #[pv,ov] 189 (0,0)) := by
 have hlt := lt_of_block h.blk
 have hsW := hW.size
 have hs := hg.size
 have hkeep : ∀ b,b < w.heap.size -> ov.ownBlock ≠ some b -> w1.heap[b]? = w.heap[b]? := fun b h1 h2 => (hg.block b (by omega) (fun h => h2 h.symm)).trans (hW.block b h1)
 have hpn : ov.ownBlock ≠ some p := fun h2 => by have := (h.own.lt p h2).1;omega
 have hb1 : w1.heap[p]? = some (.cells #[pv,ov] 189 (0,0)) := (hkeep p hlt hpn).trans h.blk
 have hbel : Below p w w1 := ((hW.mono (Nat.le_of_lt hlt)).grown hg (by omega) (fun b hb => by have := (h.own.lt b hb).1;omega))
 have hbel2 : Below p w (w1.setCell ⟨p,1,none⟩ v') := hbel.setCell (p := ⟨p,1,none⟩) (Nat.le_refl _) v'
 refine ⟨⟨block_setCell hb1 1 v',?_,h.bel.trans hbel2⟩,⟨hbel2,by rw [size_setCell];omega,fun b arr t h1 h2 h3 => (Below.heap_setCell _ _ _ _ h2).trans ((hkeep b (lt_of_block h1) (tag_ne h.own h1 h3)).trans h1)⟩,hb1⟩
 exact own_block_keep hown fun b hb => Below.heap_setCell _ _ _ _ (by have := (hown.lt b hb).1;show b ≠ p;omega)
theorem hd_cons {x : ByteArray} (h : 0 < x.size) : hdL x = letB x[0] := by
 obtain ⟨r,hr⟩ := D_cons h
 unfold hdL
 rw [hr]
theorem ls_last {x : ByteArray} (h : 0 < x.size) : lsL x = letB (x[x.size - 1]'(by omega)) := by
 unfold lsL
 have : (D x).getLast? = some (x[x.size - 1]'(by omega)) := by
  rw [List.getLast?_eq_getElem?,D_len,List.getElem?_eq_getElem (by rw [D_len];omega)]
  rfl
 rw [this]
theorem ls_nil {x : ByteArray} (h : x.size = 0) : lsL x = false := by
 unfold lsL
 have : D x = [] := List.length_eq_zero_iff.1 (by rw [D_len];exact h)
 rw [this];rfl
theorem D_nil {x : ByteArray} : D x = [] ↔ x.size = 0 := by rw [<- D_len];exact List.length_eq_zero_iff.symm
theorem emp_of {x : ByteArray} (h : x.size = 0) : x = ⟨#[]⟩ := by
 cases x with
 | mk d =>
   have : d = #[] := Array.eq_empty_of_size_eq_zero h
   rw [this]
set_option maxRecDepth 100000 in
theorem text_w {x : ByteArray} (hx : x.size <= 100000) (ho : o.size <= 100000000) (h : WM w0 w p pv ov o) :
 Calls Tryz.prog 262 #[.pointer (some ⟨p,0,none⟩),.string x] w fun e w' => (∃ u,e = .returned u) /\ ∃ ov',WM w0 w' p pv ov' (wr1 o x) /\ WF p w w' := by
 have HM : Hid (WM w0 w p pv ov o) := h
 obtain ⟨av,cv,hav⟩ := own_slice h.own
 have HAV : Hid (ov = .slice av o.size cv) := hav
 obtain ⟨i0,hi0,hz1,hz2,hz3⟩ := info_parts Tryz.infB
 have c1 := blk_at h.blk 1 rfl
 have f1 := blk_at_f h.blk 1
 rw [hav] at c1
 simp only [List.getElem_toArray,List.getElem_cons_zero,List.getElem_cons_succ] at c1
 clear h hav
 by_cases hx0 : x.size = 0
 ·have e : wr1 o x = o := by unfold wr1;rw [if_pos (D_nil.2 hx0)]
  rw [e]
  obtain rfl := emp_of hx0
  clear hx0 e hx
  go_enter Tryz.func262,Tryz.ntmps262
  go_wp2
  go_returns
  exact ⟨⟨_,rfl⟩,ov,HM.out,WF.refl _ _⟩
 have hx1 : 0 < x.size := by omega
 have hxe : Hid (x ≠ ⟨#[]⟩) := fun h => by rw [h] at hx0;exact hx0 rfl
 have hxb : x.toList.isEmpty = false := by
  cases hxx : x.toList with
  | nil => exfalso;rw [ByteArray.toList_eq] at hxx;exact hx0 (D_nil.1 hxx)
  | cons _ _ => rfl
 have hdx : Hid (¬ D x = []) := fun h => hx0 (D_nil.1 h)
 obtain ⟨n,hn⟩ : ∃ n,o.size = n := ⟨_,rfl⟩
 have HN : Hid (o.size = n) := hn
 rw [hn] at c1 ho
 have HOW : Hid (w.ownsRow (p + 1) 5 1 (.slice av n cv) n (Lib.strCells o)) := by
  have := HM.out.own
  rw [HAV.out,hn] at this
  exact this
 have HM2 : Hid (WM w0 w p pv (.slice av n cv) o) := by
  have := HM.out
  rw [HAV.out,hn] at this
  exact this
 have hlt := lt_of_block HM.out.blk
 clear hn hx0
 have HEND : Hid (∀ (W w1 : World) (v1 : Value) (o1 : ByteArray) (ov1 : Value),WM w0 W p pv ov1 o1 -> w1.ownsRow (p + 1) 5 1 v1 (o1.size + x.size) (Lib.strCells o1 ++ Lib.strCells x) -> W.grownBy w1 ov1.ownBlock -> WM w0 (w1.setCell ⟨p,1,none⟩ v1) p pv v1 (o1 ++ x) /\ WF p W (w1.setCell ⟨p,1,none⟩ v1) /\ w1.heap[p]? = some (.cells #[pv,ov1] 189 (0,0))) := fun W w1 v1 o1 ov1 hm hown hg => hm.put (Below.refl _ _) hg (by rw [strC_app,ByteArray.size_append];exact hown)
 by_cases hg : (lsL o && hdL x) = true
 ·have e : Hid (wr1 o x = o ++ blank ++ x) := by
   show _ = _
   unfold wr1
   rw [if_neg hdx.out,if_pos hg]
  simp only [Bool.and_eq_true] at hg
  have hn1 : 0 < n := by
   apply Nat.pos_of_ne_zero
   intro h0
   rw [ls_nil (by rw [HN.out];exact h0)] at hg
   exact absurd hg.1 (by simp)
  have hl1 : letB x[0] = true := by rw [<- hd_cons hx1];exact hg.2
  have hno : n - 1 < o.size := by rw [HN.out];omega
  have hl2 : letB (o[n - 1]'hno) = true := by
   have h := ls_last (x := o) (by rw [HN.out];exact hn1)
   rw [hg.1] at h
   have e2 : ∀ m (h2 : m < o.size),m = n - 1 -> letB (o[m]'h2) = letB (o[n - 1]'hno) := fun m h2 h3 => by subst h3;rfl
   rw [<- e2 (o.size - 1) (by rw [HN.out];omega) (by rw [HN.out])]
   exact h.symm
  obtain ⟨c,hc⟩ : ∃ c,o[n - 1]'hno = c := ⟨_,rfl⟩
  rw [hc] at hl2
  obtain ⟨g,cap',hsl,hg1,hg2,hg3,hg4⟩ := own_shapeP HOW.out hn1
  cases hsl
  have hcl : w.cell? ⟨g,n - 1,none⟩ = some (.int .u8 c.toNat) := by
   have h5 := HOW.out.cellAt (n - 1) (by omega)
   rw [h5]
   unfold Lib.strCells
   rw [List.getElem?_map,List.getElem?_eq_getElem (by rw [D_len];exact hno)]
   rw [<- hc];rfl
  have hgt : decide ((n : Int) > 0) = true := by simp;omega
  have hi1 : ((n : Int) - 1) = ((n - 1 : Nat) : Int) := by omega
  have hi2 : ((n - 1 : Nat) : Int) < (n : Int) := by omega
  clear hg hc
  go_enter Tryz.func262,Tryz.ntmps262
  go_upto_region 2 with (go_at_call 243;refine (isLetter_any _ _).mono ?_;rw [hl1];rintro e w' ⟨rfl,hw'⟩;have hw' := hw'.symm;subst hw')
  go_quiet (fail)
  have hmq := HM2.out.below (bdrew w nq)
  have hfq := HM2.out.fr (bdrew w nq)
  have hHq : (w.drewN nq).ownsRow (p + 1) 5 1 (.slice (some ⟨g,0,none⟩) n cv) n (Lib.strCells o) := by
   have := hmq.own
   rw [HN.out] at this
   exact this
  have hltq : p < (w.drewN nq).heap.size := hlt
  have hsz : (o ++ blank).size = n + 1 := by rw [ByteArray.size_append,HN.out];rfl
  go_wp2_with (first
   | (go_at_call 243;refine (isLetter_any c _).mono ?_;rw [hl2];rintro e w' ⟨rfl,hw'⟩;have hw' := hw'.symm;subst hw')
   | (at_builtin;refine wpList_append_own2 _ rfl (.tmp 36) (.tmp 37) 182 rfl (p + 1) 5 i0 _ 1 1 Tryz.undB hi0 hz1 hz2 hz3 rfl (by decide) _ _ _ rfl (hHq.alloc _) _ 1 1 [.int .u8 32] rfl rfl (cells_new _ _ _ _ (by simp)) ?_ ?_ ?_ ?_ ?_;(intro u hu;simp at hu;subst hu;rfl);(unfold maxLen;omega);omega;(rw [World.size_alloc];omega);intro v9 w9 hown9 hg9 hrow9;obtain ⟨hm9,hf9,hb9⟩ := hmq.put (o' := o ++ blank) ((Below.refl _ _).alloc (Nat.le_refl _) _) hg9 (by rw [strC_app,ByteArray.size_append,HN.out];exact hown9);obtain ⟨a9,c9,e9⟩ := own_slice hown9;subst e9;have d9 := blk_at hb9 1 rfl;have d9f := blk_at_f hb9 1;clear hrow9 hg9 hb9 hown9)
   | (at_builtin;refine Lib.wpList_append_own_string _ rfl (.tmp 45) (.tmp 46) 182 9 rfl (p + 1) 5 i0 Tryz.undB Tryz.underlying9 hi0 hz1 hz2 hz3 _ _ _ rfl hm9.own _ rfl ?_ ?_ ?_ ?_;(rw [hsz];unfold maxLen;omega);(rw [hsz];omega);exact lt_of_block hm9.blk;intro v1 w1 hown1 hg1 hrow1;obtain ⟨a1,k1,e1⟩ := own_slice hown1;subst e1;obtain ⟨hm1,hf1,hb1⟩ := HEND.out _ _ _ _ _ hm9 hown1 hg1;have d1 := blk_at hb1 1 rfl;have d1f := blk_at_f hb1 1;clear hrow1 hg1 hb1 hown1))
  rw [hsz] at hm1 hf1
  go_returns
  exact ⟨⟨_,rfl⟩,_,by rw [e.out];exact hm1,hfq.trans (hf9.trans hf1)⟩
 ·have e : Hid (wr1 o x = o ++ x) := by
   show _ = _
   unfold wr1
   rw [if_neg hdx.out,if_neg hg]
  have hsz : o.size = n := HN.out
  have HSZ : Hid (o.size = n) := hsz
  clear hsz
  by_cases hn0 : n = 0
  ·subst hn0
   go_enter Tryz.func262,Tryz.ntmps262
   go_wp2_with (at_builtin;refine Lib.wpList_append_own_string _ rfl (.tmp 45) (.tmp 46) 182 9 rfl (p + 1) 5 i0 Tryz.undB Tryz.underlying9 hi0 hz1 hz2 hz3 _ _ _ rfl HM2.out.own _ rfl ?_ ?_ ?_ ?_;(rw [HSZ.out];unfold maxLen;omega);(rw [HSZ.out];omega);exact lt_of_block HM2.out.blk;intro v1 w1 hown1 hg1 hrow1;obtain ⟨a1,k1,e1⟩ := own_slice hown1;subst e1;obtain ⟨hm1,hf1,hb1⟩ := HEND.out _ _ _ _ _ HM2.out hown1 hg1;have d1 := blk_at hb1 1 rfl;have d1f := blk_at_f hb1 1;clear hrow1 hg1 hb1 hown1)
   go_returns
   exact ⟨⟨_,rfl⟩,_,by rw [e.out];exact hm1,hf1⟩
  have hn1 : 0 < n := by omega
  have hgt : decide ((n : Int) > 0) = true := by simp;omega
  by_cases hl1 : letB x[0] = true
  ·have hno : n - 1 < o.size := by rw [HN.out];omega
   have hl2 : letB (o[n - 1]'hno) = false := by
    cases hll : letB (o[n - 1]'hno) with
    | false => rfl
    | true =>
      exfalso
      apply hg
      have h := ls_last (x := o) (by rw [HN.out];exact hn1)
      have e2 : ∀ m (h2 : m < o.size),m = n - 1 -> letB (o[m]'h2) = letB (o[n - 1]'hno) := fun m h2 h3 => by subst h3;rfl
      rw [e2 (o.size - 1) (by rw [HN.out];omega) (by rw [HN.out]),hll] at h
      rw [h,hd_cons hx1,hl1];rfl
   obtain ⟨c,hc⟩ : ∃ c,o[n - 1]'hno = c := ⟨_,rfl⟩
   rw [hc] at hl2
   obtain ⟨g,cap',hsl,hg1,hg2,hg3,hg4⟩ := own_shapeP HOW.out hn1
   cases hsl
   have hcl : w.cell? ⟨g,n - 1,none⟩ = some (.int .u8 c.toNat) := by
    have h5 := HOW.out.cellAt (n - 1) (by omega)
    rw [h5]
    unfold Lib.strCells
    rw [List.getElem?_map,List.getElem?_eq_getElem (by rw [D_len];exact hno)]
    rw [<- hc];rfl
   have hi1 : ((n : Int) - 1) = ((n - 1 : Nat) : Int) := by omega
   have hi2 : ((n - 1 : Nat) : Int) < (n : Int) := by omega
   clear hg hc
   go_enter Tryz.func262,Tryz.ntmps262
   go_upto_region 2 with (go_at_call 243;refine (isLetter_any _ _).mono ?_;rw [hl1];rintro e w' ⟨rfl,hw'⟩;have hw' := hw'.symm;subst hw')
   go_quiet (fail)
   have hmq := HM2.out.below (bdrew w nq)
   have hfq := HM2.out.fr (bdrew w nq)
   go_wp2_with (first
    | (go_at_call 243;refine (isLetter_any c _).mono ?_;rw [hl2];rintro e w' ⟨rfl,hw'⟩;have hw' := hw'.symm;subst hw')
    | (at_builtin;refine Lib.wpList_append_own_string _ rfl (.tmp 45) (.tmp 46) 182 9 rfl (p + 1) 5 i0 Tryz.undB Tryz.underlying9 hi0 hz1 hz2 hz3 _ _ _ rfl hmq.own _ rfl ?_ ?_ ?_ ?_;(rw [HSZ.out];unfold maxLen;omega);(rw [HSZ.out];omega);exact lt_of_block hmq.blk;intro v1 w1 hown1 hg1 hrow1;obtain ⟨a1,k1,e1⟩ := own_slice hown1;subst e1;obtain ⟨hm1,hf1,hb1⟩ := HEND.out _ _ _ _ _ hmq hown1 hg1;have d1 := blk_at hb1 1 rfl;have d1f := blk_at_f hb1 1;clear hrow1 hg1 hb1 hown1))
   go_returns
   exact ⟨⟨_,rfl⟩,_,by rw [e.out];exact hm1,hfq.trans hf1⟩
  ·have hl1' : letB x[0] = false := by simpa using hl1
   clear hl1
   go_enter Tryz.func262,Tryz.ntmps262
   go_wp2_with (first
    | (go_at_call 243;refine (isLetter_any _ _).mono ?_;rw [hl1'];rintro e w' ⟨rfl,hw'⟩;have hw' := hw'.symm;subst hw')
    | (at_builtin;refine Lib.wpList_append_own_string _ rfl (.tmp 45) (.tmp 46) 182 9 rfl (p + 1) 5 i0 Tryz.undB Tryz.underlying9 hi0 hz1 hz2 hz3 _ _ _ rfl HM2.out.own _ rfl ?_ ?_ ?_ ?_;(rw [HSZ.out];unfold maxLen;omega);(rw [HSZ.out];omega);exact lt_of_block HM2.out.blk;intro v1 w1 hown1 hg1 hrow1;obtain ⟨a1,k1,e1⟩ := own_slice hown1;subst e1;obtain ⟨hm1,hf1,hb1⟩ := HEND.out _ _ _ _ _ HM2.out hown1 hg1;have d1 := blk_at hb1 1 rfl;have d1f := blk_at_f hb1 1;clear hrow1 hg1 hb1 hown1))
   go_returns
   exact ⟨⟨_,rfl⟩,_,by rw [e.out];exact hm1,hf1⟩
set_option maxRecDepth 100000 in
theorem word_w {k : Nat} (hk : k < 35) (ho : o.size <= 100000000) (E : WE w0 p base pv ps vs) (h : WM w0 w p pv ov o) :
 Calls Tryz.prog 181 #[.pointer (some ⟨p,0,none⟩),.int .i64 (k : Nat)] w fun e w' => (∃ u,e = .returned u) /\ ∃ ov',WM w0 w' p pv ov' (wr1 o (txt k)) /\ WF p w w' := by
 have HM : Hid (WM w0 w p pv ov o) := h
 have HX : Hid ((txt k).size <= 100000) := by
  show _ <= _
  have : ∀ i : Fin 35,(txt i.val).size <= 100000 := by decide
  exact this ⟨k,hk⟩
 clear h
 go_enter Tryz.func181,Tryz.ntmps181
 go_wp2_with (first
  | (go_at_call 261;refine (text_any k _ (HM.out.tx E) (by omega)).mono ?_;rintro e w' ⟨rfl,hw'⟩;have hw' := hw'.symm;subst hw')
  | (go_at_call 262;refine (text_w HX.out ho HM.out).mono ?_;rintro _ w2 ⟨⟨u2,rfl⟩,ov2,hm2,hf2⟩))
 go_returns
 exact ⟨⟨_,rfl⟩,ov2,hm2,hf2⟩
theorem dec_digits : ∀ (N n : Nat),n <= N -> Lib.decDigits n = decL n := by
 intro N
 induction N with
 | zero => intro n hn;rw [Lib.decDigits,decL,dif_pos (by omega),if_pos (by omega)]
 | succ N ih =>
   intro n hn
   rw [Lib.decDigits,decL]
   by_cases h : n < 10
   ·rw [dif_pos h,if_pos h]
   ·rw [dif_neg h,if_neg h,ih (n / 10) (by omega)]
theorem itoa_nat (n : Nat) : (⟨(Lib.itoa (n : Int)).toArray⟩ : ByteArray) = dec n := by
 unfold Lib.itoa dec
 rw [if_neg (by omega)]
 have : ((n : Int)).toNat = n := by omega
 rw [this,dec_digits n n (Nat.le_refl _)]
theorem decL_len' : ∀ (k n : Nat),n < 10 ^ (k + 1) -> (decL n).length <= k + 1 := by
 intro k
 induction k with
 | zero => intro n h;rw [decL,if_pos (by omega)];simp
 | succ k ih =>
   intro n h
   rw [decL]
   split
   ·simp
   ·have h2 := ih (n / 10) (by rw [Nat.pow_succ] at h;omega)
    simp;omega
set_option maxRecDepth 100000 in
theorem number_w {n : Nat} (hn : n <= 4611686018427387903) (ho : o.size <= 100000000) (E : WE w0 p base pv ps vs) (h : WM w0 w p pv ov o) :
 Calls Tryz.prog 255 #[.pointer (some ⟨p,0,none⟩),.int .i64 (n : Nat)] w fun e w' => (∃ u,e = .returned u) /\ ∃ ov',WM w0 w' p pv ov' (wr1 o (dec n)) /\ WF p w w' := by
 have HM : Hid (WM w0 w p pv ov o) := h
 have HI : Hid (Calls Tryz.prog 238 #[.int .i64 n] w fun e w' => e = .returned (.string (dec n)) /\ Below w.heap.size w w') := by
  show Calls _ _ _ _ _
  refine (Tryz.strconv_Itoa (n : Int) (by omega) (by omega) w (h.tab E)).mono ?_
  rintro e w' ⟨rfl,k',os,rfl⟩
  rw [itoa_nat]
  exact ⟨rfl,⟨rfl,rfl,rfl,by show w.heap.size <= (w.heap ++ os).size;simp,fun b hb => by show (w.heap ++ os)[b]? = _;rw [Array.getElem?_append_left hb]⟩⟩
 have HX : Hid ((dec n).size <= 100000) := by
  show (decL n).toArray.size <= _
  have := decL_len' 18 n (by omega)
  simp;omega
 obtain ⟨q,hq⟩ : ∃ q,dec n = q := ⟨_,rfl⟩
 rw [hq] at HI HX ⊢
 clear h hq
 go_enter Tryz.func255,Tryz.ntmps255
 go_wp2_with (first
  | (go_at_call 238;refine HI.out.mono ?_;rintro e w1 ⟨rfl,hb1⟩)
  | (go_at_call 262;refine (text_w HX.out ho (HM.out.below hb1)).mono ?_;rintro _ w2 ⟨⟨u2,rfl⟩,ov2,hm2,hf2⟩))
 go_returns
 exact ⟨⟨_,rfl⟩,ov2,hm2,(HM.out.fr hb1).trans hf2⟩
def lw (k : Nat) : ByteArray -> Bool -> List ByteArray -> ByteArray
 | o,_,[] => o
 | o,true,x :: r => lw k (wr1 o x) false r
 | o,false,x :: r => lw k (wr1 (wr1 o (txt k)) x) false r
theorem lw_size (k : Nat) : ∀ (l : List ByteArray) (o : ByteArray) (b : Bool),o.size <= (lw k o b l).size
 | [],o,b => by cases b <;> exact Nat.le_refl _
 | x :: r,o,true => Nat.le_trans (wr1_size o x).1 (lw_size k r _ _)
 | x :: r,o,false => Nat.le_trans (Nat.le_trans (wr1_size o (txt k)).1 (wr1_size _ x).1) (lw_size k r _ _)
set_option maxRecDepth 100000 in
theorem list_w {k base' : Nat} {names : List ByteArray} {nv : Value} {R : ByteArray} (hk : k < 35) (hnl : names.length <= 100) (hns : ∀ x ∈ names,x.size <= 100000) (hR : lw k o true names = R) (hRs : R.size <= 100000000) (hrow : w0.ownsRow base' 9 1 nv names.length (names.map Value.string)) (E : WE w0 p base pv ps vs) (h : WM w0 w p pv ov o) :
 Calls Tryz.prog 256 #[.pointer (some ⟨p,0,none⟩),nv,.int .i64 (k : Nat)] w fun e w' => (∃ u,e = .returned u) /\ ∃ ov',WM w0 w' p pv ov' R /\ WF p w w' := by
 have HM : Hid (WM w0 w p pv ov o) := h
 have HR : Hid (lw k o true names = R) := hR
 have HNS : Hid (∀ x ∈ names,x.size <= 100000) := hns
 have HRW : Hid (w0.ownsRow base' 9 1 nv names.length (names.map Value.string)) := hrow
 obtain ⟨av,cv,rfl⟩ := own_slice hrow
 obtain ⟨n,hn⟩ : ∃ n,names.length = n := ⟨_,rfl⟩
 have HN : Hid (names.length = n) := hn
 have HCE : Hid (∀ (W : World) (j : Nat) (hj : j < names.length),Below p w0 W -> ∃ g,av = some ⟨g,0,none⟩ /\ W.cell? ⟨g,j,none⟩ = some (.string names[j]) /\ n <= cv) := fun W j hj hb => by
  obtain ⟨g,cap,e1,e2,e3,e4,e5⟩ := own_shapeP hrow (by omega)
  cases e1
  refine ⟨g,rfl,?_,by omega⟩
  rw [(hb.cell (p := ⟨g,j,none⟩) (by have := E.lt;show g < p;omega)),hrow.cellAt j (by omega),List.getElem?_map,List.getElem?_eq_getElem hj]
  rfl
 rw [hn] at hnl ⊢
 clear h hR hns hrow hn
 go_enter Tryz.func256,Tryz.ntmps256
 go_wp2_with fail
 go_loopg [6] n (fun gh v (wr : World) => ∃ (i : Nat) (oi : ByteArray) (ovi : Value),i <= n /\ gh = n - i /\ v = .int .i64 (i : Nat) /\ lw k oi (decide (i = 0)) (names.drop i) = R /\ WM w0 wr p pv ovi oi /\ WF p w wr)
 case atStart => exact ⟨0,o,ov,by omega,rfl,rfl,HR.out,HM.out,WF.refl _ _⟩
 case round =>
  obtain ⟨i,oi,ovi,hi,hgi,rfl,hlw,hm,hf⟩ := hrel
  have HF : Hid (WF p w wr) := hf
  have HM2 : Hid (WM w0 wr p pv ovi oi) := hm
  have HLW : Hid (lw k oi (decide (i = 0)) (names.drop i) = R) := hlw
  clear hf hm hlw HM HR
  by_cases hlt : i < n
  ·have hil : i < names.length := by rw [HN.out];exact hlt
   have hd : names.drop i = names[i] :: names.drop (i + 1) := List.drop_eq_getElem_cons hil
   obtain ⟨x,hx⟩ : ∃ x,names[i] = x := ⟨_,rfl⟩
   have HX : Hid (x.size <= 100000) := by show _ <= _;rw [<- hx];exact HNS.out _ (List.getElem_mem hil)
   obtain ⟨g,rfl,hc0,hcv⟩ := HCE.out wr i hil HM2.out.bel
   rw [hx] at hc0
   have HC2 : Hid (∀ W,Below p w0 W -> W.cell? ⟨g,i,none⟩ = some (.string x)) := fun W hW => by
    obtain ⟨g',e1,e2,_⟩ := HCE.out W i hil hW
    cases e1
    rw [hx] at e2
    exact e2
   have hl := HLW.out
   rw [hd,hx] at hl
   have hii : ((i : Int) < (n : Int)) := by omega
   clear hd hx HLW hc0
   by_cases h0 : i = 0
   ·subst h0
    have HL : Hid (lw k (wr1 oi x) false (names.drop (0 + 1)) = R) := hl
    have hs1 := lw_size k (names.drop (0 + 1)) (wr1 oi x) false
    have hs2 := wr1_size oi x
    rw [HL.out] at hs1
    have hc := HC2.out wr HM2.out.bel
    clear hl
    go_wp2_with (go_at_call 262;refine (text_w HX.out (by omega) HM2.out).mono ?_;rintro _ w2 ⟨⟨u2,rfl⟩,ov2,hm2,hf2⟩)
    go_roundg (n - (0 + 1))
    case measure => omega
    case rel => exact ⟨0 + 1,_,ov2,by omega,rfl,by go_num,HL.out,hm2,HF.out.trans hf2⟩
   ·have hdec : decide (i = 0) = false := by simpa using h0
    rw [hdec] at hl
    have HL : Hid (lw k (wr1 (wr1 oi (txt k)) x) false (names.drop (i + 1)) = R) := hl
    have hs1 := lw_size k (names.drop (i + 1)) (wr1 (wr1 oi (txt k)) x) false
    have hs2 := wr1_size oi (txt k)
    have hs3 := wr1_size (wr1 oi (txt k)) x
    rw [HL.out] at hs1
    have hgt : decide ((i : Int) > 0) = true := by simp;omega
    clear hl
    go_wp2_with (first
     | (go_at_call 181;refine (word_w hk (by omega) E HM2.out).mono ?_;rintro _ w2 ⟨⟨u2,rfl⟩,ov2,hm2,hf2⟩;have hc := HC2.out w2 hm2.bel)
     | (go_at_call 262;refine (text_w HX.out (by omega) hm2).mono ?_;rintro _ w3 ⟨⟨u3,rfl⟩,ov3,hm3,hf3⟩))
    go_roundg (n - (i + 1))
    case measure => omega
    case rel => exact ⟨i + 1,_,ov3,by omega,rfl,by go_num,by simpa using HL.out,hm3,HF.out.trans (hf2.trans hf3)⟩
  ·have hin : i = n := by omega
   have hl := HLW.out
   rw [List.drop_eq_nil_of_le (by rw [HN.out];omega)] at hl
   have hoi : oi = R := by
    rw [<- hl]
    cases decide (i = 0) <;> rfl
   subst hin
   subst hoi
   clear hl HLW
   go_wp2_with fail
   go_returns
   exact ⟨⟨_,rfl⟩,ovi,HM2.out,HF.out⟩
end
structure PtI (ps : List CP) (vs : List (Value × Value)) (i k a wd : Nat) (nm : Int) (na : Option Addr) (nl nc : Nat) (ka : Option Addr) (kl kc : Nat) : Prop where
 lt : i < ps.length
 lt' : i < vs.length
 k : ps[i].k = k
 a : ps[i].a = a
 wd : ps[i].wd = wd
 nm : ps[i].nm = nm
 nv : vs[i].1 = .slice na nl nc
 kv : vs[i].2 = .slice ka kl kc
 nl : ps[i].ns.length = nl
 kl : ps[i].ks.length = kl
section
variable {w0 w : World} {p base : Nat} {pv ov : Value} {ps : List CP} {vs : List (Value × Value)} {o : ByteArray} {i k a wd nl nc kl kc : Nat} {nm : Int} {na ka : Option Addr}
def PaW (w0 : World) (p : Nat) (pv : Value) (kd q : Nat) (o R : ByteArray) : Prop := ∀ (w : World) (ov : Value),WM w0 w p pv ov o -> Calls Tryz.prog 105 #[.pointer (some ⟨p,0,none⟩),.int .i64 (kd : Nat),.int .i64 (q : Nat)] w fun e w' => (∃ u,e = .returned u) /\ ∃ ov',WM w0 w' p pv ov' R /\ WF p w w'
def KiW (w0 : World) (p : Nat) (pv : Value) (i k a wd : Nat) (nm : Int) (na : Option Addr) (nl nc : Nat) (ka : Option Addr) (kl kc j : Nat) (o R : ByteArray) : Prop := ∀ (w : World) (ov : Value),WM w0 w p pv ov o -> Calls Tryz.prog 260 #[.pointer (some ⟨p,0,none⟩),.int .i64 (i : Nat),.agg #[.int .i64 (k : Nat),.int .i64 (a : Nat),.int .i64 (wd : Nat),.int .i64 nm,.slice na nl nc,.slice ka kl kc],.int .i64 (j : Nat)] w fun e w' => (∃ u,e = .returned u) /\ ∃ ov',WM w0 w' p pv ov' R /\ WF p w w'
theorem PaW.go {w0 w : World} {p : Nat} {pv ov : Value} {kd q : Nat} {o R : ByteArray} (h : PaW w0 p pv kd q o R) (hm : WM w0 w p pv ov o) : Calls Tryz.prog 105 #[.pointer (some ⟨p,0,none⟩),.int .i64 (kd : Nat),.int .i64 (q : Nat)] w fun e w' => (∃ u,e = .returned u) /\ ∃ ov',WM w0 w' p pv ov' R /\ WF p w w' := h w ov hm
theorem KiW.go {j : Nat} {R : ByteArray} (h : KiW w0 p pv i k a wd nm na nl nc ka kl kc j o R) (hm : WM w0 w p pv ov o) : Calls Tryz.prog 260 #[.pointer (some ⟨p,0,none⟩),.int .i64 (i : Nat),.agg #[.int .i64 (k : Nat),.int .i64 (a : Nat),.int .i64 (wd : Nat),.int .i64 nm,.slice na nl nc,.slice ka kl kc],.int .i64 (j : Nat)] w fun e w' => (∃ u,e = .returned u) /\ ∃ ov',WM w0 w' p pv ov' R /\ WF p w w' := h w ov hm
set_option maxRecDepth 100000 in
theorem kid_w {j kd : Nat} {R : ByteArray} (E : WE w0 p base pv ps vs) (hI : PtI ps vs i k a wd nm na nl nc ka kl kc) (hk : k < 26) (hkl : kl <= 100) (hj : ps[i]?.bind (fun c => c.ks[j]?) = some (kd : Int)) (hkd : kd < i) (hP : PaW w0 p pv kd (wanted k j) o R) : KiW w0 p pv i k a wd nm na nl nc ka kl kc j o R := by
 intro w ov h
 have HM : Hid (WM w0 w p pv ov o) := h
 have c0 := fun x => blk_at (al_old (o := x) h.blk) 0 rfl
 have HT : Hid (∀ (W : World) (ov : Value),WM w0 W p pv ov o -> Calls Tryz.prog 219 #[.agg #[pv],.int .i64 (i : Nat),.int .i64 (j : Nat)] W fun e w' => e = .returned (.int .i64 (kd : Nat)) /\ Below W.heap.size W w') := fun W ov hW => by
  refine treeKid_any (Nat.le_trans E.len (by omega)) (hW.pt E) hI.lt ?_ (by rw [hI.kl];omega) hkd
  rw [List.getElem?_eq_getElem hI.lt] at hj
  exact hj
 obtain ⟨av,cv,hav⟩ := own_slice E.pt.own
 obtain ⟨qw,hqw⟩ : ∃ qw,wanted k j = qw := ⟨_,rfl⟩
 have HW : Hid (∀ W,Calls Tryz.prog 321 #[.int .i64 (k : Nat),.int .i64 (j : Nat)] W fun e w' => e = .returned (.int .i64 (qw : Nat)) /\ w' = W) := fun W => by rw [<- hqw];exact wantedRank_any hk W
 rw [hqw] at hP
 have HPP : Hid (PaW w0 p pv kd qw o R) := hP
 obtain ⟨npv,hnpv⟩ : ∃ npv,npv = ps.length := ⟨_,rfl⟩
 rw [<- hnpv] at hav
 subst hav
 clear h hP hj hqw hI hnpv
 go_enter Tryz.func260,Tryz.ntmps260
 go_wp2_with (first
  | (go_at_call 219;refine (HT.out _ ov (HM.out.al _)).mono ?_;rintro _ w1 ⟨rfl,hb1⟩;have bx1 := blk_below (blk_new w _) hb1 (by rw [World.size_alloc];omega);have d0 := blk_at bx1 0 rfl;have hm1 := (HM.out.al _).below hb1;have hf1 := (HM.out.fr ((Below.refl _ _).alloc (Nat.le_refl _) _)).trans ((HM.out.al _).fr hb1);clear bx1)
  | (go_at_call 321;refine (HW.out _).mono ?_;rintro _ w2 ⟨rfl,hw2⟩;have hw2 := hw2.symm;subst hw2)
  | (go_at_call 105;refine (HPP.out.go hm1).mono ?_;rintro _ w3 ⟨⟨u3,rfl⟩,ov3,hm3,hf3⟩))
 go_returns
 exact ⟨⟨_,rfl⟩,ov3,hm3,hf1.trans hf3⟩
def ksF (sg : Nat) (kf : Nat -> ByteArray -> ByteArray) : Nat -> ByteArray -> ByteArray
 | 0,o => o
 | j + 1,o => kf j (if j = 0 then ksF sg kf j o else wr1 (ksF sg kf j o) (txt sg))
theorem ksF_size {sg : Nat} {kf : Nat -> ByteArray -> ByteArray} (hm : ∀ j o,o.size <= (kf j o).size) (o : ByteArray) : ∀ (n j : Nat),j <= n -> (ksF sg kf j o).size <= (ksF sg kf n o).size
 | 0,j,h => by have : j = 0 := by omega
               subst this;exact Nat.le_refl _
 | n + 1,j,h => by
   by_cases hj : j = n + 1
   ·subst hj;exact Nat.le_refl _
   ·have h1 := ksF_size (sg := sg) hm o n j (by omega)
    rw [ksF]
    refine Nat.le_trans h1 ?_
    split
    ·exact hm _ _
    ·exact Nat.le_trans (wr1_size _ _).1 (hm _ _)
set_option maxRecDepth 100000 in
theorem kids_w {sg : Nat} {kf : Nat -> ByteArray -> ByteArray} (E : WE w0 p base pv ps vs) (hsg : sg < 35) (hkl : kl <= 100) (hmo : ∀ j o,o.size <= (kf j o).size) (hK : ∀ j,j < kl -> ∀ o1,(kf j o1).size <= 100000000 -> KiW w0 p pv i k a wd nm na nl nc ka kl kc j o1 (kf j o1)) (hR : (ksF sg kf kl o).size <= 100000000) (h : WM w0 w p pv ov o) :
 Calls Tryz.prog 257 #[.pointer (some ⟨p,0,none⟩),.int .i64 (i : Nat),.agg #[.int .i64 (k : Nat),.int .i64 (a : Nat),.int .i64 (wd : Nat),.int .i64 nm,.slice na nl nc,.slice ka kl kc],.int .i64 (sg : Nat)] w fun e w' => (∃ u,e = .returned u) /\ ∃ ov',WM w0 w' p pv ov' (ksF sg kf kl o) /\ WF p w w' := by
 have HM : Hid (WM w0 w p pv ov o) := h
 obtain ⟨R,hRR⟩ : ∃ R,ksF sg kf kl o = R := ⟨_,rfl⟩
 have HRR : Hid (ksF sg kf kl o = R) := hRR
 have HSZ : Hid (∀ j,j <= kl -> (ksF sg kf j o).size <= 100000000) := fun j hj => Nat.le_trans (ksF_size hmo o kl j hj) hR
 have HK : Hid (∀ j,j < kl -> ∀ o1,(kf j o1).size <= 100000000 -> KiW w0 p pv i k a wd nm na nl nc ka kl kc j o1 (kf j o1)) := hK
 rw [hRR]
 clear h hR hRR hK
 go_enter Tryz.func257,Tryz.ntmps257
 go_wp2_with fail
 go_loopg [8] kl (fun gh v (wr : World) => ∃ (j : Nat) (ovi : Value),j <= kl /\ gh = kl - j /\ v = .int .i64 (j : Nat) /\ WM w0 wr p pv ovi (ksF sg kf j o) /\ WF p w wr /\ wr.heap[w.heap.size]? = some (.cells #[.int .i64 (k : Nat),.int .i64 (a : Nat),.int .i64 (wd : Nat),.int .i64 nm,.slice na nl nc,.slice ka kl kc] 302 (0,0)))
 case atStart => exact ⟨0,ov,by omega,rfl,rfl,HM.out.al _,HM.out.fr ((Below.refl _ _).alloc (Nat.le_refl _) _),blk_new w _⟩
 case round =>
  obtain ⟨j,ovi,hj,hgj,rfl,hm,hf,hbx⟩ := hrel
  have HF : Hid (WF p w wr) := hf
  have HM2 : Hid (WM w0 wr p pv ovi (ksF sg kf j o)) := hm
  have HBX : Hid (wr.heap[w.heap.size]? = some (.cells #[.int .i64 (k : Nat),.int .i64 (a : Nat),.int .i64 (wd : Nat),.int .i64 nm,.slice na nl nc,.slice ka kl kc] 302 (0,0))) := hbx
  have np : w.heap.size ≠ p := by have := lt_of_block HM.out.blk;omega
  have c5 := blk_at hbx 5 rfl
  clear hf hm
  by_cases hlt : j < kl
  ·have HS1 : Hid ((ksF sg kf (j + 1) o).size <= 100000000) := HSZ.out (j + 1) (by omega)
   by_cases h0 : j = 0
   ·subst h0
    have HKJ : Hid (KiW w0 p pv i k a wd nm na nl nc ka kl kc 0 (ksF sg kf 0 o) (ksF sg kf (0 + 1) o)) := HK.out 0 hlt _ HS1.out
    have c0 := blk_at hbx 0 rfl
    have c1 := blk_at hbx 1 rfl
    have c2 := blk_at hbx 2 rfl
    have c3 := blk_at hbx 3 rfl
    have c4 := blk_at hbx 4 rfl
    clear hbx
    go_wp2_with (go_at_call 260;refine (HKJ.out.go HM2.out).mono ?_;rintro _ w2 ⟨⟨u2,rfl⟩,ov2,hm2,hf2⟩)
    go_roundg (kl - (0 + 1))
    case measure => omega
    case rel => exact ⟨0 + 1,ov2,by omega,rfl,by go_num,hm2,HF.out.trans hf2,hf2.rest _ _ _ HBX.out np (by decide)⟩
   ·have hgt : decide ((j : Int) > 0) = true := by simp;omega
    have hs2 : (wr1 (ksF sg kf j o) (txt sg)).size <= 100000000 := by
     have := HS1.out
     rw [ksF,if_neg h0] at this
     exact Nat.le_trans (hmo j _) this
    have hs3 := wr1_size (ksF sg kf j o) (txt sg)
    have HKJ : Hid (KiW w0 p pv i k a wd nm na nl nc ka kl kc j (wr1 (ksF sg kf j o) (txt sg)) (ksF sg kf (j + 1) o)) := by
     have h5 := HK.out j hlt (wr1 (ksF sg kf j o) (txt sg)) (by have := HS1.out;rw [ksF,if_neg h0] at this;exact this)
     show KiW _ _ _ _ _ _ _ _ _ _ _ _ _ _ _ _ _
     rw [ksF,if_neg h0]
     exact h5
    clear hbx
    go_wp2_with (first
     | (go_at_call 181;refine (word_w hsg (by omega) E HM2.out).mono ?_;rintro _ w2 ⟨⟨u2,rfl⟩,ov2,hm2,hf2⟩;have bx2 := hf2.rest _ _ _ HBX.out np (by decide);have c0 := blk_at bx2 0 rfl;have c1 := blk_at bx2 1 rfl;have c2 := blk_at bx2 2 rfl;have c3 := blk_at bx2 3 rfl;have c4 := blk_at bx2 4 rfl;have c5' := blk_at bx2 5 rfl)
     | (go_at_call 260;refine (HKJ.out.go hm2).mono ?_;rintro _ w3 ⟨⟨u3,rfl⟩,ov3,hm3,hf3⟩))
    go_roundg (kl - (j + 1))
    case measure => omega
    case rel => exact ⟨j + 1,ov3,by omega,rfl,by go_num,hm3,HF.out.trans (hf2.trans hf3),hf3.rest _ _ _ bx2 np (by decide)⟩
  ·have hjk : j = kl := by omega
   subst hjk
   have hm3 := HM2.out
   rw [HRR.out] at hm3
   clear hbx
   go_wp2_with fail
   go_returns
   exact ⟨⟨_,rfl⟩,ovi,hm3,HF.out⟩
set_option maxRecDepth 100000 in
theorem choice_w (E : WE w0 p base pv ps vs) {kf : Nat -> ByteArray -> ByteArray} (hmo : ∀ j o,o.size <= (kf j o).size) (hK : ∀ j,j < kl -> ∀ o1,(kf j o1).size <= 100000000 -> KiW w0 p pv i k a wd nm na nl nc ka kl kc j o1 (kf j o1)) (hkl : kl <= 100) (hk3 : kl = 3) (hk : k = 11) (hR : (kf 2 (wr1 (kf 1 (wr1 (kf 0 (wr1 o (txt 6))) (txt 7))) (txt 8))).size <= 100000000) (h : WM w0 w p pv ov o) :
 Calls Tryz.prog 259 #[.pointer (some ⟨p,0,none⟩),.int .i64 (i : Nat),.agg #[.int .i64 (k : Nat),.int .i64 (a : Nat),.int .i64 (wd : Nat),.int .i64 nm,.slice na nl nc,.slice ka kl kc]] w fun e w' => (∃ u,e = .returned u) /\ ∃ ov',WM w0 w' p pv ov' (kf 2 (wr1 (kf 1 (wr1 (kf 0 (wr1 o (txt 6))) (txt 7))) (txt 8))) /\ WF p w w' := by
 subst hk3
 have HM : Hid (WM w0 w p pv ov o) := h
 have HK : Hid (∀ j,j < 3 -> ∀ o1,(kf j o1).size <= 100000000 -> KiW w0 p pv i k a wd nm na nl nc ka 3 kc j o1 (kf j o1)) := hK
 have np : w.heap.size ≠ p := by have := lt_of_block h.blk;omega
 obtain ⟨o1,e1⟩ : ∃ o1,wr1 o (txt 6) = o1 := ⟨_,rfl⟩
 have z1 := wr1_size o (txt 6)
 rw [e1] at hR z1 ⊢
 have Q1 : Hid (wr1 o (txt 6) = o1) := e1
 clear e1
 obtain ⟨o2,e2⟩ : ∃ o2,kf 0 o1 = o2 := ⟨_,rfl⟩
 have z2 := hmo 0 o1
 rw [e2] at hR z2 ⊢
 have Q2 : Hid (kf 0 o1 = o2) := e2
 clear e2
 obtain ⟨o3,e3⟩ : ∃ o3,wr1 o2 (txt 7) = o3 := ⟨_,rfl⟩
 have z3 := wr1_size o2 (txt 7)
 rw [e3] at hR z3 ⊢
 have Q3 : Hid (wr1 o2 (txt 7) = o3) := e3
 clear e3
 obtain ⟨o4,e4⟩ : ∃ o4,kf 1 o3 = o4 := ⟨_,rfl⟩
 have z4 := hmo 1 o3
 rw [e4] at hR z4 ⊢
 have Q4 : Hid (kf 1 o3 = o4) := e4
 clear e4
 obtain ⟨o5,e5⟩ : ∃ o5,wr1 o4 (txt 8) = o5 := ⟨_,rfl⟩
 have z5 := wr1_size o4 (txt 8)
 rw [e5] at hR z5 ⊢
 have Q5 : Hid (wr1 o4 (txt 8) = o5) := e5
 clear e5
 obtain ⟨o6,e6⟩ : ∃ o6,kf 2 o5 = o6 := ⟨_,rfl⟩
 have z6 := hmo 2 o5
 rw [e6] at hR z6 ⊢
 have Q6 : Hid (kf 2 o5 = o6) := e6
 clear e6
 have HK2 : Hid (KiW w0 p pv i k a wd nm na nl nc ka 3 kc 0 o1 o2) := by
  have h5 := HK.out 0 (by omega) o1 (by rw [Q2.out];omega)
  rw [Q2.out] at h5
  exact h5
 have HK4 : Hid (KiW w0 p pv i k a wd nm na nl nc ka 3 kc 1 o3 o4) := by
  have h5 := HK.out 1 (by omega) o3 (by rw [Q4.out];omega)
  rw [Q4.out] at h5
  exact h5
 have HK6 : Hid (KiW w0 p pv i k a wd nm na nl nc ka 3 kc 2 o5 o6) := by
  have h5 := HK.out 2 (by omega) o5 (by rw [Q6.out];omega)
  rw [Q6.out] at h5
  exact h5
 have HF0 : Hid (∀ x,WF p w (w.alloc x)) := fun x => HM.out.fr ((Below.refl _ _).alloc (Nat.le_refl _) _)
 clear h hK
 subst hk
 all_goals
  go_enter Tryz.func259,Tryz.ntmps259
  go_wp2_with (first
   | (go_at_call 181;refine (word_w (k := 6) (by omega) (by omega) E (HM.out.al _)).mono ?_;rw [Q1.out];rintro _ w1 ⟨⟨u1,rfl⟩,ov1,hm1,hf1⟩;have bx1 := hf1.rest _ _ _ (blk_new w _) np (by decide);have c0 := blk_at bx1 0 rfl;have c1 := blk_at bx1 1 rfl;have c2 := blk_at bx1 2 rfl;have c3 := blk_at bx1 3 rfl;have c4 := blk_at bx1 4 rfl;have c5 := blk_at bx1 5 rfl;clear HM)
   | (go_at_call 260;refine (HK2.out.go hm1).mono ?_;rintro _ w2 ⟨⟨u2,rfl⟩,ov2,hm2,hf2⟩;have bx2 := hf2.rest _ _ _ bx1 np (by decide);have c0 := blk_at bx2 0 rfl;have c1 := blk_at bx2 1 rfl;have c2 := blk_at bx2 2 rfl;have c3 := blk_at bx2 3 rfl;have c4 := blk_at bx2 4 rfl;have c5 := blk_at bx2 5 rfl;clear hm1)
   | (go_at_call 181;refine (word_w (k := 7) (by omega) (by omega) E hm2).mono ?_;rw [Q3.out];rintro _ w3 ⟨⟨u3,rfl⟩,ov3,hm3,hf3⟩;have bx3 := hf3.rest _ _ _ bx2 np (by decide);have c0 := blk_at bx3 0 rfl;have c1 := blk_at bx3 1 rfl;have c2 := blk_at bx3 2 rfl;have c3 := blk_at bx3 3 rfl;have c4 := blk_at bx3 4 rfl;have c5 := blk_at bx3 5 rfl;clear hm2)
   | (go_at_call 260;refine (HK4.out.go hm3).mono ?_;rintro _ w4 ⟨⟨u4,rfl⟩,ov4,hm4,hf4⟩;have bx4 := hf4.rest _ _ _ bx3 np (by decide);have c0 := blk_at bx4 0 rfl;have c1 := blk_at bx4 1 rfl;have c2 := blk_at bx4 2 rfl;have c3 := blk_at bx4 3 rfl;have c4 := blk_at bx4 4 rfl;have c5 := blk_at bx4 5 rfl;clear hm3)
   | (go_at_call 181;refine (word_w (k := 8) (by omega) (by omega) E hm4).mono ?_;rw [Q5.out];rintro _ w5 ⟨⟨u5,rfl⟩,ov5,hm5,hf5⟩;have bx5 := hf5.rest _ _ _ bx4 np (by decide);have c0 := blk_at bx5 0 rfl;have c1 := blk_at bx5 1 rfl;have c2 := blk_at bx5 2 rfl;have c3 := blk_at bx5 3 rfl;have c4 := blk_at bx5 4 rfl;have c5 := blk_at bx5 5 rfl;clear hm4)
   | (go_at_call 260;refine (HK6.out.go hm5).mono ?_;rintro _ w6 ⟨⟨u6,rfl⟩,ov6,hm6,hf6⟩;have bx6 := hf6.rest _ _ _ bx5 np (by decide);have c0 := blk_at bx6 0 rfl;have c1 := blk_at bx6 1 rfl;have c2 := blk_at bx6 2 rfl;have c3 := blk_at bx6 3 rfl;have c4 := blk_at bx6 4 rfl;have c5 := blk_at bx6 5 rfl;clear hm5))
  go_returns
  exact ⟨⟨_,rfl⟩,ov6,hm6,((((((HF0.out _).trans hf1).trans hf2).trans hf3).trans hf4).trans hf5).trans hf6⟩
end
end Go.Proofs.YtmkdoejpgkgpbaaGreatDoor
