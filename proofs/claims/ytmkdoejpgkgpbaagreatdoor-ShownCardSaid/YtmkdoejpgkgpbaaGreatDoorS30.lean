import Derived.Test.YtmkdoejpgkgpbaaGreatDoorS29
set_option linter.unusedVariables false
set_option linter.unusedSimpArgs false
set_option maxHeartbeats 20000000
namespace Go.Proofs.YtmkdoejpgkgpbaaGreatDoor
open Go.RowKit Sl
theorem take_row (S : PF) (v : Value) : (S.row v).take = S.take.row v := rfl
theorem fail_row (L : List Tok) (e : Int) (S : PF) (v : Value) : (S.row v).fail L e = (S.fail L e).row v := rfl
theorem want_row (L : List Tok) (k : Nat) (S : PF) (v : Value) : (S.row v).want L k = (S.want L k).row v := by
 unfold PF.want
 by_cases h : (cwAt L S.next).k = k
 ·rw [if_pos h,if_pos (show (cwAt L (S.row v).next).k = k from h)];rfl
 ·rw [if_neg h,if_neg (show ¬ (cwAt L (S.row v).next).k = k from h)];rfl
theorem wantW_row (L : List Tok) (k : Nat) (S : PF) (v : Value) : wantW L k (S.row v) = wantW L k S := rfl
theorem finish_row (L : List Tok) (S : PF) (v : Value) : (S.row v).finish L = (S.finish L).row v := by
 unfold PF.finish;rw [want_row];rfl
theorem beg0_row (L : List Tok) (N : Int) (k : Nat) (S : PF) (v : Value) : (S.row v).beg0 L N k = (S.beg0 L N k).row v := by
 unfold PF.beg0
 by_cases h : (cwAt L S.next).k = k
 ·rw [if_pos h,if_pos (show (cwAt L (S.row v).next).k = k from h)]
  by_cases h2 : N <= S.opn
  ·rw [if_pos h2,if_pos (show N <= (S.row v).opn from h2)];rfl
  ·rw [if_neg h2,if_neg (show ¬ N <= (S.row v).opn from h2)]
 ·rw [if_neg h,if_neg (show ¬ (cwAt L (S.row v).next).k = k from h)];rfl
theorem begin_row (L : List Tok) (N : Int) (k : Nat) (S : PF) (v : Value) : (S.row v).begin L N k = (S.begin L N k).row v := by
 unfold PF.begin;rw [beg0_row];rfl
theorem parL_row (L : List Tok) (v : Value) : ∀ (f : Nat) (S : PF) (ns : List ByteArray),parL L f (S.row v) ns = ((parL L f S ns).1.row v,(parL L f S ns).2)
 | 0,S,ns => rfl
 | f + 1,S,ns => by
   by_cases h : (cwAt L S.next).k = 2
   ·rw [parL,parL,if_pos h,if_pos (show (cwAt L (S.row v).next).k = 2 from h),take_row,parL_row L v f];rfl
   ·rw [parL,parL,if_neg h,if_neg (show ¬ (cwAt L (S.row v).next).k = 2 from h)]
theorem fnN_row (L : List Tok) (v : Value) (S : PF) : fnN L (S.row v) = ((fnN L S).1.row v,(fnN L S).2) := by
 unfold fnN
 rw [want_row,want_row,parL_row]
 rfl
theorem tupL_row (L : List Tok) (v : Value) : ∀ (f : Nat) (S : PF) (ns : List ByteArray),tupL L f (S.row v) ns = ((tupL L f S ns).1.row v,(tupL L f S ns).2)
 | 0,S,ns => rfl
 | f + 1,S,ns => by
   by_cases h : (cwAt L S.next).k = 25
   ·rw [tupL,tupL,if_pos h,if_pos (show (cwAt L (S.row v).next).k = 25 from h),take_row,want_row,tupL_row L v f];rfl
   ·rw [tupL,tupL,if_neg h,if_neg (show ¬ (cwAt L (S.row v).next).k = 25 from h)]
theorem tpN_row (L : List Tok) (N : Int) (v : Value) (S : PF) : tpN L N (S.row v) = ((tpN L N S).1.row v,(tpN L N S).2) := by
 have h : tpB L N (S.row v) = ((tpB L N S).1.row v,(tpB L N S).2) := by
  unfold tpB
  rw [begin_row,want_row,want_row,want_row,tupL_row]
  rfl
 unfold tpN
 rw [h,finish_row]
structure PE (p lb cap base : Nat) (L : List Tok) : Prop where
 lbp : lb < p
 pb : p < base
 cap : L.length <= cap
 len : L.length <= 1000
structure PM (w : World) (p lb cap base : Nat) (N : Int) (L : List Tok) (q : Q) (pv : Value) (D : Nat -> Prop) : Prop where
 blk : w.heap[p]? = some (pfB lb L.length cap N (q.S.row pv))
 ps : ∃ vs,PsAt w base pv q.ps vs /\ ∀ b,D b -> ∀ v ∈ vs,v.1.ownBlock ≠ some b /\ v.2.ownBlock ≠ some b
 cw : CW w lb L
 bs : base <= w.heap.size
 dl : ∀ b,D b -> b < w.heap.size
section
variable {w w' : World} {p lb cap base : Nat} {N : Int} {L : List Tok} {q : Q} {pv : Value} {D : Nat -> Prop}
theorem PM.weak {D' : Nat -> Prop} (h : PM w p lb cap base N L q pv D) (hd : ∀ b,D' b -> D b) : PM w p lb cap base N L q pv D' := by
 obtain ⟨vs,hp,hv⟩ := h.ps
 exact ⟨h.blk,⟨vs,hp,fun b hb => hv b (hd b hb)⟩,h.cw,h.bs,fun b hb => h.dl b (hd b hb)⟩
theorem PM.below (h : PM w p lb cap base N L q pv D) (E : PE p lb cap base L) (hb : Below w.heap.size w w') : PM w' p lb cap base N L q pv D := by
 have h1 := h.bs
 have h2 := E.pb
 have h3 := E.lbp
 have h4 := hb.size
 obtain ⟨vs,hp,hv⟩ := h.ps
 exact ⟨blk_below h.blk hb (by omega),⟨vs,hp.below hb,hv⟩,h.cw.below hb (by omega),by omega,fun b hb' => Nat.lt_of_lt_of_le (h.dl b hb') h4⟩
theorem PM.al (h : PM w p lb cap base N L q pv D) (E : PE p lb cap base L) (o : Obj) : PM (w.alloc o) p lb cap base N L q pv D := h.below E ((Below.refl _ _).alloc (Nat.le_refl _) _)
theorem PM.step (h : PM w p lb cap base N L q pv D) (E : PE p lb cap base L) {S : PF} (hb : w'.heap[p]? = some (pfB lb L.length cap N (S.row pv))) (ho : Only p w.heap.size w w') : PM w' p lb cap base N L ⟨S,q.ps⟩ pv D := by
 have h4 := ho.below.size
 have h1 := h.bs
 obtain ⟨vs,hp,hv⟩ := h.ps
 exact ⟨hb,⟨vs,hp.only ho h4 E.pb,hv⟩,h.cw.only ho E.lbp,by omega,fun b hb' => Nat.lt_of_lt_of_le (h.dl b hb') h4⟩
theorem PM.row (h : PM w p lb cap base N L q pv D) : ∀ b,w.heap.size <= b -> pv.ownBlock ≠ some b := by
 obtain ⟨vs,hp,hv⟩ := h.ps
 exact hp.row_lt
theorem PM.lt (h : PM w p lb cap base N L q pv D) (E : PE p lb cap base L) : p < w.heap.size := by
 have := E.pb;have := h.bs;omega
abbrev Kp (p : Nat) (pv pv' : Value) (w w' : World) : Prop := Fr p pv.ownBlock pv'.ownBlock w w'
theorem Fr.al (h : PM w p lb cap base N L q pv D) (E : PE p lb cap base L) (o : Obj) : Kp p pv pv w (w.alloc o) := Fr.below' ((Below.refl _ _).alloc (Nat.le_refl _) _) (Nat.le_of_lt (h.lt E))
theorem Fr.loc {r r' : Option Nat} {b : Nat} {X : Obj} (h : Fr p r r' w w') (hb : w.heap[b]? = some X) (hp : b ≠ p) (hr : r ≠ some b) : w'.heap[b]? = some X /\ r' ≠ some b := by
 have hl := lt_of_block hb
 refine ⟨(h.rest b hl hp hr).trans hb,fun h2 => ?_⟩
 rcases h.row b h2 with h3 | h3
 ·exact hr h3
 ·omega
theorem cwV_nat (t : Tok) : ∃ (tk tp : Nat) (tn : Int) (ts : ByteArray),cwV t = .agg #[.int .i64 (tk : Nat),.int .i64 (tp : Nat),.int .i64 tn,.string ts] /\ tk = t.k /\ tp = t.p /\ tn = t.n /\ ts = tkNm t := ⟨_,_,_,_,rfl,rfl,rfl,rfl,rfl⟩
theorem kindM {kk : Nat} (hk : q.kind L = kk) (E : PE p lb cap base L) (h : PM w p lb cap base N L q pv D) :
 Calls Tryz.prog 248 #[.pointer (some ⟨p,0,none⟩)] w fun e w' => e = .returned (.int .i64 (kk : Nat)) /\ PM w' p lb cap base N L q pv D /\ Kp p pv pv w w' := by
 refine (pkind_any (S := q.S.row pv) hk (Nat.le_trans E.len (by omega)) h.blk E.cap h.cw E.lbp).mono ?_
 rintro _ w1 ⟨rfl,hb⟩
 exact ⟨rfl,h.below E hb,Fr.below' hb (Nat.le_of_lt (h.lt E))⟩
theorem operatorM {kk : Nat} (hk : cOp (q.kind L) = kk) (E : PE p lb cap base L) (h : PM w p lb cap base N L q pv D) :
 Calls Tryz.prog 363 #[.pointer (some ⟨p,0,none⟩)] w fun e w' => e = .returned (.int .i64 (kk : Nat)) /\ PM w' p lb cap base N L q pv D /\ Kp p pv pv w w' := by
 subst hk
 refine (operator_any (S := q.S.row pv) (kk := q.kind L) rfl (Nat.le_trans E.len (by omega)) h.blk E.cap h.cw E.lbp).mono ?_
 rintro _ w1 ⟨rfl,hb⟩
 exact ⟨rfl,h.below E hb,Fr.below' hb (Nat.le_of_lt (h.lt E))⟩
theorem atOperandM {b : Bool} (hk : cOpd (q.kind L) = b) (E : PE p lb cap base L) (h : PM w p lb cap base N L q pv D) :
 Calls Tryz.prog 416 #[.pointer (some ⟨p,0,none⟩)] w fun e w' => e = .returned (.bool b) /\ PM w' p lb cap base N L q pv D /\ Kp p pv pv w w' := by
 subst hk
 refine (atOperand_any (S := q.S.row pv) (kk := q.kind L) rfl (Nat.le_trans E.len (by omega)) h.blk E.cap h.cw E.lbp).mono ?_
 rintro _ w1 ⟨rfl,hb⟩
 exact ⟨rfl,h.below E hb,Fr.below' hb (Nat.le_of_lt (h.lt E))⟩
theorem takeM {tk tp : Nat} {tn : Int} {ts : ByteArray} (hcv : cwV (q.word L) = .agg #[.int .i64 (tk : Nat),.int .i64 (tp : Nat),.int .i64 tn,.string ts]) (hq : q.S.next <= 900000) (E : PE p lb cap base L) (h : PM w p lb cap base N L q pv D) :
 Calls Tryz.prog 254 #[.pointer (some ⟨p,0,none⟩)] w fun e w' => e = .returned (.agg #[.int .i64 (tk : Nat),.int .i64 (tp : Nat),.int .i64 tn,.string ts]) /\ PM w' p lb cap base N L q.take pv D /\ Kp p pv pv w w' := by
 rw [<- hcv]
 refine (take_any (S := q.S.row pv) (Nat.le_trans E.len (by omega)) (show q.S.next <= _ by omega) h.blk E.cap h.cw E.lbp).mono ?_
 rintro _ w1 ⟨rfl,hb,ho⟩
 exact ⟨rfl,h.step E hb ho,Fr.only ho ho.below.size⟩
theorem wantM {k tk tp : Nat} {tn : Int} {ts : ByteArray} (hcv : cwV (wantW L k q.S) = .agg #[.int .i64 (tk : Nat),.int .i64 (tp : Nat),.int .i64 tn,.string ts]) (hq : q.S.next <= 900000) (E : PE p lb cap base L) (h : PM w p lb cap base N L q pv D) :
 Calls Tryz.prog 177 #[.pointer (some ⟨p,0,none⟩),.int .i64 k] w fun e w' => e = .returned (.agg #[.int .i64 (tk : Nat),.int .i64 (tp : Nat),.int .i64 tn,.string ts]) /\ PM w' p lb cap base N L (q.want L k) pv D /\ Kp p pv pv w w' := by
 rw [<- hcv]
 refine (want_any (S := q.S.row pv) (k := k) (Nat.le_trans E.len (by omega)) (show q.S.next <= _ by omega) h.blk E.cap h.cw E.lbp).mono ?_
 rintro _ w1 ⟨rfl,hb,ho⟩
 rw [want_row] at hb
 exact ⟨rfl,h.step E hb ho,Fr.only ho ho.below.size⟩
theorem wantM' {k : Nat} (hq : q.S.next <= 900000) (E : PE p lb cap base L) (h : PM w p lb cap base N L q pv D) :
 Calls Tryz.prog 177 #[.pointer (some ⟨p,0,none⟩),.int .i64 k] w fun e w' => (∃ a b c d,e = .returned (.agg #[.int .i64 a,.int .i64 b,.int .i64 c,.string d])) /\ PM w' p lb cap base N L (q.want L k) pv D /\ Kp p pv pv w w' := by
 obtain ⟨tk,tp,tn,ts,hcv,_⟩ := cwV_nat (wantW L k q.S)
 refine (wantM hcv hq E h).mono ?_
 rintro _ w1 ⟨rfl,h1,h2⟩
 exact ⟨⟨_,_,_,_,rfl⟩,h1,h2⟩
theorem begM {k tk tp : Nat} {tn : Int} {ts : ByteArray} (hcv : cwV (q.begW L N k) = .agg #[.int .i64 (tk : Nat),.int .i64 (tp : Nat),.int .i64 tn,.string ts]) (hq : q.fine) (E : PE p lb cap base L) (h : PM w p lb cap base N L q pv D) :
 Calls Tryz.prog 360 #[.pointer (some ⟨p,0,none⟩),.int .i64 k] w fun e w' => e = .returned (.agg #[.int .i64 (tk : Nat),.int .i64 (tp : Nat),.int .i64 tn,.string ts]) /\ PM w' p lb cap base N L (q.beg L N k) pv D /\ Kp p pv pv w w' := by
 rw [<- hcv]
 obtain ⟨h1,h2,h3,h4⟩ := hq
 refine (begin_any (S := q.S.row pv) (k := k) (Nat.le_trans E.len (by omega)) (show q.S.next <= _ by omega) (show _ <= q.S.opn by omega) (show q.S.opn <= _ by omega) h.blk E.cap h.cw E.lbp).mono ?_
 rintro _ w1 ⟨rfl,hb,ho⟩
 rw [beg0_row,begin_row] at *
 exact ⟨rfl,h.step E hb ho,Fr.only ho ho.below.size⟩
theorem finishM (hq : q.fine) (E : PE p lb cap base L) (h : PM w p lb cap base N L q pv D) :
 Calls Tryz.prog 361 #[.pointer (some ⟨p,0,none⟩)] w fun e w' => (∃ u,e = .returned u) /\ PM w' p lb cap base N L (q.finish L) pv D /\ Kp p pv pv w w' := by
 obtain ⟨h1,h2,h3,h4⟩ := hq
 refine (finish_any (S := q.S.row pv) (Nat.le_trans E.len (by omega)) (show q.S.next <= _ by omega) (show _ <= q.S.opn by omega) (show q.S.opn <= _ by omega) h.blk E.cap h.cw E.lbp).mono ?_
 rintro _ w1 ⟨hu,hb,ho⟩
 rw [finish_row] at hb
 exact ⟨hu,h.step E hb ho,Fr.only ho ho.below.size⟩
theorem failM {e : Int} (E : PE p lb cap base L) (h : PM w p lb cap base N L q pv D) :
 Calls Tryz.prog 253 #[.pointer (some ⟨p,0,none⟩),.int .i64 e] w fun r w' => (∃ u,r = .returned u) /\ PM w' p lb cap base N L (q.fail L e) pv D /\ Kp p pv pv w w' := by
 refine (fail_any (S := q.S.row pv) (e := e) (Nat.le_trans E.len (by omega)) h.blk E.cap h.cw E.lbp).mono ?_
 rintro _ w1 ⟨hu,hb,ho⟩
 rw [fail_row] at hb
 exact ⟨hu,h.step E hb ho,Fr.only ho ho.below.size⟩
theorem placeOfM {x : Int} (hx : -1 <= x) (hx2 : x <= 100000) (hq : q.fine) (E : PE p lb cap base L) (h : PM w p lb cap base N L q pv D) :
 Calls Tryz.prog 417 #[.pointer (some ⟨p,0,none⟩),.int .i64 x] w fun e w' => e = .returned (.int .i64 (plOf q.ps x : Nat)) /\ PM w' p lb cap base N L q pv D /\ Kp p pv pv w w' := by
 obtain ⟨vs,hp,hv⟩ := h.ps
 refine (placeOf_any (S := q.S.row pv) (by have := hq.2.2.2;omega) hx (by omega) h.blk hp).mono ?_
 rintro _ w1 ⟨rfl,hb⟩
 exact ⟨rfl,h.below E hb,Fr.below' hb (Nat.le_of_lt (h.lt E))⟩
def NmR (w : World) (base : Nat) (row : Option Nat) (D : Nat -> Prop) (nv : Value) (ns : List ByteArray) : Prop := w.ownsRow base 9 1 nv ns.length (ns.map Value.string) /\ ∀ b,nv.ownBlock = some b -> row ≠ some b /\ ¬ D b
theorem NmR.fr {r r' : Option Nat} {nv : Value} {ns : List ByteArray} (h : NmR w base r D nv ns) (hf : Fr p r r' w w') (hp : p < base) : NmR w' base r' D nv ns := ⟨(hf.own h.1 hp (fun b hb => (h.2 b hb).1)).1,fun b hb => ⟨(hf.own h.1 hp (fun b hb => (h.2 b hb).1)).2 b hb,(h.2 b hb).2⟩⟩
theorem nmr_of {nv : Value} {ns : List ByteArray} (h : PM w p lb cap base N L q pv D) (ho : w'.ownsRow w.heap.size 9 1 nv ns.length (ns.map Value.string)) : NmR w' base pv.ownBlock D nv ns :=
 ⟨⟨ho.1,ho.2.imp id (fun ⟨g,c,cur,h1,h2,h3⟩ => ⟨g,c,cur,h1,Nat.le_trans h.bs h2,h3⟩)⟩,fun b hb => ⟨h.row b (ho.lt b hb).1,fun hd => by have := h.dl b hd;have := (ho.lt b hb).1;omega⟩⟩
theorem parM {q1 : Q} {ns : List ByteArray} (he : q.par L = (q1,ns)) (hq : q.S.next <= 800000) (E : PE p lb cap base L) (h : PM w p lb cap base N L q pv D) :
 Calls Tryz.prog 318 #[.pointer (some ⟨p,0,none⟩)] w fun e w' => ∃ a c,e = .returned (.slice a ns.length c) /\ PM w' p lb cap base N L q1 pv D /\ NmR w' base pv.ownBlock D (.slice a ns.length c) ns /\ Kp p pv pv w w' := by
 refine (parameters_any (S := q.S.row pv) (Nat.le_trans E.len (by omega)) (show q.S.next <= _ by omega) h.blk E.cap h.cw E.lbp).mono ?_
 rintro _ w1 ⟨nv,S',ns',rfl,h1,hb,hown,ho,hs,_⟩
 rw [want_row,wantW_row,parL_row] at h1
 unfold Q.par at he
 injection h1 with h1 h2
 injection he with h3 h4
 subst h3 h1
 rw [h2] at h4
 subst h4
 have hn := nmr_of h hown
 obtain ⟨a,c,e1⟩ := own_slice hown
 subst e1
 exact ⟨a,c,rfl,h.step E hb ho,hn,Fr.only ho hs⟩
theorem fnmM {q1 : Q} {ns : List ByteArray} (he : q.fnm L = (q1,ns)) (hq : q.S.next <= 800000) (E : PE p lb cap base L) (h : PM w p lb cap base N L q pv D) :
 Calls Tryz.prog 315 #[.pointer (some ⟨p,0,none⟩)] w fun e w' => ∃ a c,e = .returned (.slice a ns.length c) /\ PM w' p lb cap base N L q1 pv D /\ NmR w' base pv.ownBlock D (.slice a ns.length c) ns /\ Kp p pv pv w w' := by
 refine (functionNames_any (S := q.S.row pv) (Nat.le_trans E.len (by omega)) (show q.S.next <= _ by omega) h.blk E.cap h.cw E.lbp).mono ?_
 rintro _ w1 ⟨nv,S',ns',rfl,h1,hb,hown,ho,hs,_⟩
 rw [fnN_row] at h1
 unfold Q.fnm at he
 injection h1 with h1 h2
 injection he with h3 h4
 subst h3 h1
 rw [h2] at h4
 subst h4
 have hn := nmr_of h hown
 obtain ⟨a,c,e1⟩ := own_slice hown
 subst e1
 exact ⟨a,c,rfl,h.step E hb ho,hn,Fr.only ho hs⟩
theorem tpmM {q1 : Q} {ns : List ByteArray} (he : q.tpm L N = (q1,ns)) (hq : q.S.next <= 800000) (ho1 : -100000 <= q.S.opn) (ho2 : q.S.opn <= 100000) (E : PE p lb cap base L) (h : PM w p lb cap base N L q pv D) :
 Calls Tryz.prog 316 #[.pointer (some ⟨p,0,none⟩)] w fun e w' => ∃ a c,e = .returned (.slice a ns.length c) /\ PM w' p lb cap base N L q1 pv D /\ NmR w' base pv.ownBlock D (.slice a ns.length c) ns /\ Kp p pv pv w w' := by
 refine (tupleNames_any (S := q.S.row pv) (Nat.le_trans E.len (by omega)) (show q.S.next <= _ by omega) ho1 ho2 h.blk E.cap h.cw E.lbp).mono ?_
 rintro _ w1 ⟨nv,S',ns',rfl,h1,hb,hown,ho,hs,_⟩
 rw [tpN_row] at h1
 unfold Q.tpm at he
 injection h1 with h1 h2
 injection he with h3 h4
 subst h3 h1
 rw [h2] at h4
 subst h4
 have hn := nmr_of h hown
 obtain ⟨a,c,e1⟩ := own_slice hown
 subst e1
 exact ⟨a,c,rfl,h.step E hb ho,hn,Fr.only ho hs⟩
def KdR (w : World) (base : Nat) (row : Option Nat) (D : Nat -> Prop) (kv : Value) (ks : List Int) : Prop := w.ownsRow base 3 1 kv ks.length (ks.map (Value.int .i64)) /\ ∀ b,kv.ownBlock = some b -> row ≠ some b /\ ¬ D b
theorem KdR.fr {r r' : Option Nat} {nv : Value} {ns : List Int} (h : KdR w base r D nv ns) (hf : Fr p r r' w w') (hp : p < base) : KdR w' base r' D nv ns := ⟨(hf.own h.1 hp (fun b hb => (h.2 b hb).1)).1,fun b hb => ⟨(hf.own h.1 hp (fun b hb => (h.2 b hb).1)).2 b hb,(h.2 b hb).2⟩⟩
theorem KdR.lower {b0 : Nat} {r : Option Nat} {kv : Value} {ks : List Int} (h : KdR w b0 r D kv ks) (hb : base <= b0) : KdR w base r D kv ks := ⟨⟨h.1.1,h.1.2.imp id (fun ⟨g,c,cur,h1,h2,h3⟩ => ⟨g,c,cur,h1,Nat.le_trans hb h2,h3⟩)⟩,h.2⟩
theorem nmr_none (w : World) (base : Nat) (row : Option Nat) (D : Nat -> Prop) : NmR w base row D (.slice none 0 0) [] := ⟨World.ownsRow_nil _ _ _ _,fun b hb => by cases hb⟩
theorem kdr_none (w : World) (base : Nat) (row : Option Nat) (D : Nat -> Prop) : KdR w base row D (.slice none 0 0) [] := ⟨World.ownsRow_nil _ _ _ _,fun b hb => by cases hb⟩
theorem kdr_new (h : PM w p lb cap base N L q pv D) {b0 : Nat} (hb0 : b0 <= w.heap.size) (ks : List Int) (hl : ks.length <= 100) {n B : Nat} (hn : n = ks.length) (hB : B = w.heap.size) {o : Obj} (ho : o = .cells (ks.map (Value.int .i64)).toArray 3) : KdR (w.alloc o) b0 pv.ownBlock D (.slice (some ⟨B,0,none⟩) n n) ks := by
 subst hn hB ho
 refine ⟨?_,fun b hb => ?_⟩
 ·have := own_new (xs := ks.map (Value.int .i64)) (base := b0) (heap_alloc_new w (.cells (ks.map (Value.int .i64)).toArray 3)) hb0 (by simp [maxLen];omega)
  simpa using this
 ·have : w.heap.size = b := by simpa [Value.ownBlock] using hb
  exact ⟨h.row b (by omega),fun hd => by have := h.dl b hd;omega⟩
theorem nmr_new (h : PM w p lb cap base N L q pv D) (ks : List ByteArray) (hl : ks.length <= 100) {n B : Nat} (hn : n = ks.length) (hB : B = w.heap.size) {o : Obj} (ho : o = .cells (ks.map Value.string).toArray 9) : NmR (w.alloc o) base pv.ownBlock D (.slice (some ⟨B,0,none⟩) n n) ks := by
 subst hn hB ho
 refine ⟨?_,fun b hb => ?_⟩
 ·have := own_new (xs := ks.map Value.string) (base := base) (heap_alloc_new w (.cells (ks.map Value.string).toArray 9)) h.bs (by simp [maxLen];omega)
  simpa using this
 ·have : w.heap.size = b := by simpa [Value.ownBlock] using hb
  exact ⟨h.row b (by omega),fun hd => by have := h.dl b hd;omega⟩
def DB (D : Nat -> Prop) (kv : Value) : Nat -> Prop := fun b => D b \/ kv.ownBlock = some b
theorem PsAt.lt {vs : List (Value × Value)} {ps : List CP} (h : PsAt w base pv ps vs) : ∀ v ∈ vs,∀ b,(v.1.ownBlock = some b \/ v.2.ownBlock = some b) -> b < w.heap.size := by
 intro v hv b hb
 obtain ⟨i,hi,rfl⟩ := List.getElem_of_mem hv
 have hr := h.rows i (by rw [<- h.len];exact hi) hi
 rcases hb with hb | hb
 ·exact (hr.names.lt b hb).2
 ·exact (hr.kids.lt b hb).2
theorem PM.alD (h : PM w p lb cap base N L q pv D) (E : PE p lb cap base L) (o : Obj) {B n c : Nat} (hB : B = w.heap.size) : PM (w.alloc o) p lb cap base N L q pv (DB D (.slice (some ⟨B,0,none⟩) n c)) := by
 subst hB
 have h1 := h.al E o
 obtain ⟨vs,hp,hv⟩ := h.ps
 refine ⟨h1.blk,⟨vs,hp.below ((Below.refl _ _).alloc (Nat.le_refl _) _),fun b hb v hvm => ?_⟩,h1.cw,h1.bs,fun b hb => ?_⟩
 ·rcases hb with hb | hb
  ·exact hv b hb v hvm
  ·have hb : w.heap.size = b := by simpa [Value.ownBlock] using hb
   exact ⟨fun h2 => by have := hp.lt v hvm b (.inl h2);omega,fun h2 => by have := hp.lt v hvm b (.inr h2);omega⟩
 ·rw [World.size_alloc]
  rcases hb with hb | hb
  ·have := h.dl b hb;omega
  ·have hb : w.heap.size = b := by simpa [Value.ownBlock] using hb
   omega
theorem PM.app {b0 n : Nat} {kv v' : Value} {ks : List Int} {o : Obj} {xs : List Value} {w1 : World} (h : PM w p lb cap base N L q pv (DB D kv)) (E : PE p lb cap base L) (hk : KdR w b0 pv.ownBlock D kv ks) (hb0 : base <= b0) (hb1 : b0 <= w.heap.size)
 (hg : (w.alloc o).grownBy w1 kv.ownBlock) (hown : w1.ownsRow b0 3 1 v' n xs) (hrow : v'.ownBlock = kv.ownBlock \/ v'.ownBlock = some (w.alloc o).heap.size) :
 PM w1 p lb cap base N L q pv (DB D v') /\ (∀ b,v'.ownBlock = some b -> pv.ownBlock ≠ some b /\ ¬ D b) /\ (∀ b,b < w.heap.size -> kv.ownBlock ≠ some b -> w1.heap[b]? = w.heap[b]?) /\ w.heap.size <= w1.heap.size /\ Below b0 w w1 := by
 have hh : ∀ b,b < w.heap.size -> kv.ownBlock ≠ some b -> w1.heap[b]? = w.heap[b]? := fun b h1 h2 => by
  rw [hg.block b (by rw [World.size_alloc];omega) (fun h => h2 h.symm),Below.heap_alloc _ _ _ h1]
 have hs := hg.size
 rw [World.size_alloc] at hs hrow
 have hlt := h.lt E
 have hpb := E.pb
 have hlb := E.lbp
 have hbs := h.bs
 have hkl := hk.1.lt
 have hbel : Below b0 w w1 := ((Below.refl _ _).alloc hb1 o).grown hg (by rw [World.size_alloc];omega) (own_ge hk.1)
 obtain ⟨vs,hp,hv⟩ := h.ps
 refine ⟨⟨blk_below h.blk hbel (by omega),⟨vs,⟨own_block_keep hp.own fun b hb => hh b (hp.own.lt b hb).2 fun h2 => (hk.2 b h2).1 hb,hp.len,fun i h1 h2 => ?_⟩,fun b hb v hvm => ?_⟩,h.cw.below hbel (by omega),by omega,fun b hb => ?_⟩,fun b hb => ?_,hh,by omega,hbel⟩
 ·have hr := hp.rows i h1 h2
  have hm : vs[i] ∈ vs := List.getElem_mem h2
  refine ⟨own_block_keep hr.names fun b hb => hh b (hr.names.lt b hb).2 fun h3 => (hv b (.inr h3) _ hm).1 hb,own_block_keep hr.kids fun b hb => hh b (hr.kids.lt b hb).2 fun h3 => (hv b (.inr h3) _ hm).2 hb,hr.n1,hr.n2⟩
 ·rcases hb with hb | hb
  ·exact hv b (.inl hb) v hvm
  ·rcases hrow with h3 | h3
   ·exact hv b (.inr (h3 ▸ hb)) v hvm
   ·rw [h3] at hb
    cases hb
    exact ⟨fun h2 => by have := hp.lt v hvm _ (.inl h2);omega,fun h2 => by have := hp.lt v hvm _ (.inr h2);omega⟩
 ·rcases hb with hb | hb
  ·have := h.dl b (.inl hb);omega
  ·exact (hown.lt b hb).2
 ·rcases hrow with h3 | h3
  ·exact hk.2 b (h3 ▸ hb)
  ·rw [h3] at hb
   cases hb
   exact ⟨h.row _ (by omega),fun hd => by have := h.dl _ (.inl hd);omega⟩
theorem addM {k a wd : Nat} {nm : Int} {ns : List ByteArray} {ks : List Int} {nv kv : Value} (hq : q.fine) (E : PE p lb cap base L) (h : PM w p lb cap base N L q pv D) (hn : NmR w base pv.ownBlock D nv ns) (hk : KdR w base pv.ownBlock D kv ks) :
 Calls Tryz.prog 317 #[.pointer (some ⟨p,0,none⟩),.agg #[.int .i64 (k : Nat),.int .i64 (a : Nat),.int .i64 (wd : Nat),.int .i64 nm,nv,kv]] w fun e w' => e = .returned (.int .i64 (q.ps.length : Nat)) /\ ∃ pv',PM w' p lb cap base N L (q.add ⟨k,a,wd,nm,ns,ks⟩) pv' D /\ Kp p pv pv' w w' := by
 obtain ⟨vs,hp,hv⟩ := h.ps
 refine (add_st (S := q.S.row pv) (q := ⟨k,a,wd,nm,ns,ks⟩) (v := (nv,kv)) (by have := hq.2.2.2;omega) h.blk E.pb h.bs hp ⟨hn.1,hk.1,fun b hb => (hn.2 b hb).1,fun b hb => (hk.2 b hb).1⟩).mono ?_
 rintro _ w1 ⟨rfl,pv',hb,hps,hf⟩
 refine ⟨rfl,pv',⟨hb,⟨_,hps,fun b hb v hvm => ?_⟩,h.cw.below hf.below E.lbp,Nat.le_trans h.bs hf.size,fun b hb => Nat.lt_of_lt_of_le (h.dl b hb) hf.size⟩,hf⟩
 rcases List.mem_append.1 hvm with hvm | hvm
 ·exact hv b hb v hvm
 ·simp at hvm
  subst hvm
  exact ⟨fun h2 => (hn.2 b h2).2 hb,fun h2 => (hk.2 b h2).2 hb⟩
theorem betweenM {k tk tp : Nat} {l r tn : Int} {ts : ByteArray} (hq : q.fine) (E : PE p lb cap base L) (h : PM w p lb cap base N L q pv D) :
 Calls Tryz.prog 320 #[.pointer (some ⟨p,0,none⟩),.int .i64 (k : Nat),.int .i64 l,.agg #[.int .i64 (tk : Nat),.int .i64 (tp : Nat),.int .i64 tn,.string ts],.int .i64 r] w fun e w' => e = .returned (.int .i64 (q.ps.length : Nat)) /\ ∃ pv',PM w' p lb cap base N L (q.add ⟨k,tp,tk,0,[],[l,r]⟩) pv' D /\ Kp p pv pv' w w' := by
 obtain ⟨vs,hp,hv⟩ := h.ps
 refine (between_any (S := q.S.row pv) (by have := hq.2.2.2;omega) h.blk E.pb h.bs hp).mono ?_
 rintro _ w1 ⟨rfl,pv',hb,hps,hf⟩
 refine ⟨rfl,pv',⟨hb,⟨_,hps,fun b hb v hvm => ?_⟩,h.cw.below hf.below E.lbp,Nat.le_trans h.bs hf.size,fun b hb => Nat.lt_of_lt_of_le (h.dl b hb) hf.size⟩,hf⟩
 rcases List.mem_append.1 hvm with hvm | hvm
 ·exact hv b hb v hvm
 ·simp at hvm
  subst hvm
  refine ⟨fun h2 => (by cases h2),fun h2 => ?_⟩
  have h3 : w.heap.size + 1 = b := by simpa [Value.ownBlock] using h2
  have := h.dl b hb
  omega
end
def Wk (p lb cap base : Nat) (N : Int) (L : List Tok) (n F : Nat) (args : Array Value) (m : Md) : Prop :=
 ∀ (w : World) (q : Q) (pv : Value) (x : Int) (q' : Q) (D : Nat -> Prop),pr L N n m q = some (x,q') -> PM w p lb cap base N L q pv D ->
   Calls Tryz.prog F args w fun e w' => e = .returned (.int .i64 x) /\ ∃ pv',PM w' p lb cap base N L q' pv' D /\ Kp p pv pv' w w'
theorem Wk.go {p lb cap base : Nat} {N : Int} {L : List Tok} {n F : Nat} {args : Array Value} {m : Md} (h : Wk p lb cap base N L n F args m) {w : World} {q : Q} {pv : Value} {x : Int} {q' : Q} {D : Nat -> Prop} (h1 : pr L N n m q = some (x,q')) (h2 : PM w p lb cap base N L q pv D) :
 Calls Tryz.prog F args w fun e w' => e = .returned (.int .i64 x) /\ ∃ pv',PM w' p lb cap base N L q' pv' D /\ Kp p pv pv' w w' := h w q pv x q' D h1 h2
end Go.Proofs.YtmkdoejpgkgpbaaGreatDoor
