import Derived.Test.YtnhbcdnmfafbiaaGreatDoorM09
import Derived.Test.YtnhbcdnmfafbiaaGreatDoorProg
import Derived.IntWalk
set_option linter.unusedVariables false
set_option linter.unusedSimpArgs false
set_option maxHeartbeats 20000000
set_option maxRecDepth 100000
namespace Go.Proofs.YtnhbcdnmfafbiaaGreatDoor
namespace V
open Go.Proofs
inductive Tr where
 |l (k:Nat) (x:TI)
 |n (k:Nat) (a b:Tr)
def Tr.g:Tr->Nat->TI
 | .l k x,t=>cond (Nat.beq t k) x ti0
 | .n k a b,t=>cond (Nat.ble t k) (a.g t) (b.g t)
def Tr.all:Tr->List (Nat × TI)
 | .l k x=>[(k,x)]
 | .n _ a b=>a.all ++b.all
def lfP (P:Program) (q:Nat × TI):TI × Option (List C):=({jJR P q.1 with z:=none},match q.2.z with|none=>none|some l=>(jJR P q.1).z.map (msk l))
def rgP (q:Nat × TI):TI × Option (List C):=({q.2 with z:=none},match q.2.z with|none=>none|some l=>some (l.map zn))
theorem Tr.g_in:∀(s:Tr) (t:Nat),(s.g t).kd≠0->(t,s.g t) ∈ s.all
 | .l k x,t,h=>by
   simp only[Tr.g]at h ⊢
   cases hb :Nat.beq t k with
   |false=>rw[hb]at h;exact absurd rfl h
   |true=>rw[Nat.eq_of_beq_eq_true hb];simp[Tr.all]
 | .n k a b,t,h=>by
   simp only[Tr.g]at h ⊢
   cases hb :Nat.ble t k with
   |false=>rw[hb]at h;exact List.mem_append_right _ (Tr.g_in b t h)
   |true=>rw[hb]at h;exact List.mem_append_left _ (Tr.g_in a t h)
theorem rows_ok {P:Program}:∀{l:List (Nat × TI)},l.map (lfP P)=l.map rgP->∀q ∈ l,q.2={jJR P q.1 with z:=q.2.z}/\∀m,q.2.z=some m->(jJR P q.1).z.map (msk m)=some (m.map zn)
 |[],_,q,h=>by cases h
 |x ::l,h,q,B=>by
  simp only[List.map_cons,List.cons.injEq]at h;rcases List.mem_cons.1 B with rfl|B
  .have h1:=h.1
   unfold lfP rgP at h1;simp only[Prod.mk.injEq,TI.mk.injEq]at h1;obtain⟨⟨G,J,M,_,O,V,Y,Z,e8⟩,E⟩:=h1;refine⟨?_,fun m hm=>?_⟩
   .show q.2=⟨(jJR P q.1).sz,(jJR P q.1).bs,(jJR P q.1).ag,q.2.z,(jJR P q.1).kd,(jJR P q.1).el,(jJR P q.1).ln,(jJR P q.1).fs,(jJR P q.1).ik⟩
    rw[G,J,M,O,V,Y,Z,e8]
   .rw[hm]at E;exact E
  .exact rows_ok h.2 q B
def iz (k:IntKind):C:=.i k 0
def ro (z:Nat):C:=.r true z []
def rf (z:Nat):C:=.r false z []
def se:C:=.s ⟨#[]⟩
def bf:C:=.b false
def tys:Tr:=.n 99 (.n 49 (.n 17 (.n 9 (.n 5 (.n 3 (.n 2 (.l 2 ⟨1,8,false,some ([iz .i64]),5,0,0,[],.i64⟩) (.l 3 ⟨1,8,false,some ([iz .i64]),5,0,0,[],.i64⟩)) (.n 4 (.l 4 ⟨1,1,false,some ([bf]),6,0,0,[],.i64⟩) (.l 5 ⟨1,1,false,some ([iz .u8]),5,0,0,[],.u8⟩))) (.n 7 (.n 6 (.l 6 ⟨1,1,false,some ([iz .u8]),5,0,0,[],.u8⟩) (.l 7 ⟨4,24,true,some ([iz .i64,iz .i64,bf,iz .u8]),3,0,0,[(0,2),(1,3),(2,4),(3,6)],.i64⟩)) (.n 8 (.l 8 ⟨4,24,true,some ([iz .i64,iz .i64,bf,iz .u8]),3,0,0,[(0,2),(1,3),(2,4),(3,6)],.i64⟩) (.l 9 ⟨1,16,false,some ([se]),4,0,0,[],.i64⟩)))) (.n 13 (.n 11 (.n 10 (.l 10 ⟨1,16,false,some ([se]),4,0,0,[],.i64⟩) (.l 11 ⟨1,16,false,some ([se]),4,0,0,[],.i64⟩)) (.n 12 (.l 12 ⟨1,8,false,some ([iz .u64]),5,0,0,[],.u64⟩) (.l 13 ⟨2,24,true,some ([se,iz .u64]),3,0,0,[(0,9),(1,12)],.i64⟩))) (.n 15 (.n 14 (.l 14 ⟨2,24,true,some ([se,iz .u64]),3,0,0,[(0,9),(1,12)],.i64⟩) (.l 15 ⟨1,8,false,some ([.pn]),7,269,0,[],.i64⟩)) (.n 16 (.l 16 ⟨1,8,false,some ([.pn]),7,272,0,[],.i64⟩) (.l 17 ⟨1,8,false,some ([.pn]),7,280,0,[],.i64⟩))))) (.n 29 (.n 22 (.n 19 (.n 18 (.l 18 ⟨1,8,true,some ([.pn]),3,0,0,[(0,17)],.i64⟩) (.l 19 ⟨1,8,true,some ([.pn]),3,0,0,[(0,17)],.i64⟩)) (.n 21 (.l 21 ⟨1,4,false,some ([iz .i32]),5,0,0,[],.i32⟩) (.l 22 ⟨1,24,false,some ([ro 1]),1,3,0,[],.i64⟩))) (.n 27 (.n 23 (.l 23 ⟨1,8,false,some ([.pn]),7,28,0,[],.i64⟩) (.l 27 ⟨5,56,true,some ([ro 1,iz .i64,iz .i64,iz .i64,iz .i64]),3,0,0,[(0,22),(1,3),(2,3),(3,3),(4,3)],.i64⟩)) (.n 28 (.l 28 ⟨5,56,true,some ([ro 1,iz .i64,iz .i64,iz .i64,iz .i64]),3,0,0,[(0,22),(1,3),(2,3),(3,3),(4,3)],.i64⟩) (.l 29 ⟨1,8,false,some ([.pn]),7,40,0,[],.i64⟩)))) (.n 39 (.n 34 (.n 31 (.l 31 ⟨1,8,false,some ([iz .i64]),5,0,0,[],.i64⟩) (.l 34 ⟨8,80,true,some ([iz .i64,iz .i64,iz .i64,ro 1,iz .i64,iz .i64,iz .i64,iz .i64]),3,0,0,[(0,31),(1,3),(2,3),(3,22),(4,3),(5,3),(6,3),(7,3)],.i64⟩)) (.n 35 (.l 35 ⟨8,80,true,some ([iz .i64,.ui,iz .i64,rf 1,iz .i64,iz .i64,iz .i64,iz .i64]),3,0,0,[(0,31),(1,3),(2,3),(3,22),(4,3),(5,3),(6,3),(7,3)],.i64⟩) (.l 39 ⟨0,0,true,some ([]),3,0,0,[],.i64⟩))) (.n 41 (.n 40 (.l 40 ⟨0,0,true,some ([]),3,0,0,[],.i64⟩) (.l 41 ⟨1,24,false,some ([ro 6]),1,119,0,[],.i64⟩)) (.n 42 (.l 42 ⟨1,24,true,some ([ro 6]),3,0,0,[(0,41)],.i64⟩) (.n 43 (.l 43 ⟨1,24,true,some ([rf 6]),3,0,0,[(0,41)],.i64⟩) (.l 49 ⟨1,24,false,some ([ro 4]),1,99,0,[],.i64⟩))))))) (.n 79 (.n 65 (.n 54 (.n 51 (.n 50 (.l 50 ⟨1,24,false,some ([ro 5]),1,101,0,[],.i64⟩) (.l 51 ⟨3,72,true,some ([ro 4,ro 1,ro 5]),3,0,0,[(0,49),(1,22),(2,50)],.i64⟩)) (.n 52 (.l 52 ⟨3,72,true,some ([rf 4,rf 1,rf 5]),3,0,0,[(0,49),(1,22),(2,50)],.i64⟩) (.l 54 ⟨1,24,false,some ([ro 13]),1,130,0,[],.i64⟩))) (.n 56 (.n 55 (.l 55 ⟨1,24,true,some ([ro 13]),3,0,0,[(0,54)],.i64⟩) (.l 56 ⟨1,24,true,some ([ro 13]),3,0,0,[(0,54)],.i64⟩)) (.n 60 (.l 60 ⟨1,8,false,some ([.pn]),7,104,0,[],.i64⟩) (.l 65 ⟨1,24,false,some ([ro 4]),1,110,0,[],.i64⟩)))) (.n 72 (.n 70 (.n 69 (.l 69 ⟨1,8,false,some ([.pn]),7,72,0,[],.i64⟩) (.l 70 ⟨1,24,false,some ([ro 1]),1,5,0,[],.i64⟩)) (.n 71 (.l 71 ⟨2,48,true,some ([rf 6,ro 1]),3,0,0,[(0,43),(1,70)],.i64⟩) (.l 72 ⟨2,48,true,some ([rf 6,ro 1]),3,0,0,[(0,43),(1,70)],.i64⟩))) (.n 77 (.n 75 (.l 75 ⟨1,8,false,some ([.pn]),7,82,0,[],.i64⟩) (.l 77 ⟨1,24,false,some ([ro 3]),1,196,0,[],.i64⟩)) (.n 78 (.l 78 ⟨1,24,true,some ([ro 3]),3,0,0,[(0,77)],.i64⟩) (.l 79 ⟨1,24,true,some ([ro 3]),3,0,0,[(0,77)],.i64⟩))))) (.n 87 (.n 83 (.n 81 (.n 80 (.l 80 ⟨1,24,false,some ([ro 4]),1,259,0,[],.i64⟩) (.l 81 ⟨5,88,true,some ([rf 6,ro 3,ro 4,iz .i64,iz .i64]),3,0,0,[(0,43),(1,79),(2,80),(3,31),(4,3)],.i64⟩)) (.n 82 (.l 82 ⟨5,88,true,some ([rf 6,ro 3,ro 4,iz .i64,.ui]),3,0,0,[(0,43),(1,79),(2,80),(3,31),(4,3)],.i64⟩) (.l 83 ⟨1,8,false,some ([.pn]),7,87,0,[],.i64⟩))) (.n 85 (.n 84 (.l 84 ⟨1,24,false,some ([ro 4]),1,89,0,[],.i64⟩) (.l 85 ⟨1,8,false,some ([.pn]),7,141,0,[],.i64⟩)) (.n 86 (.l 86 ⟨6,128,true,some ([ro 13,ro 4,rf 4,rf 1,rf 5,.pn]),3,0,0,[(0,56),(1,84),(2,52),(5,85)],.i64⟩) (.l 87 ⟨6,128,true,some ([ro 13,ro 4,ro 4,ro 1,ro 5,.pn]),3,0,0,[(0,56),(1,84),(2,52),(5,85)],.i64⟩)))) (.n 92 (.n 89 (.n 88 (.l 88 ⟨4,64,true,some ([iz .i64,ro 1,ro 1,iz .i64]),3,0,0,[(0,3),(1,22),(2,22),(3,3)],.i64⟩) (.l 89 ⟨4,64,true,some ([iz .i64,rf 1,rf 1,iz .i64]),3,0,0,[(0,3),(1,22),(2,22),(3,3)],.i64⟩)) (.n 91 (.l 91 ⟨1,8,false,some ([.pn]),7,94,0,[],.i64⟩) (.l 92 ⟨1,24,false,some ([ro 2]),1,174,0,[],.i64⟩))) (.n 94 (.n 93 (.l 93 ⟨4,80,true,some ([rf 6,ro 13,ro 2,iz .i64]),3,0,0,[(0,43),(1,56),(2,92),(3,3)],.i64⟩) (.l 94 ⟨4,80,true,some ([rf 6,ro 13,ro 2,iz .i64]),3,0,0,[(0,43),(1,56),(2,92),(3,3)],.i64⟩)) (.n 96 (.l 96 ⟨1,8,false,some ([.pn]),7,153,0,[],.i64⟩) (.n 98 (.l 98 ⟨4,32,true,some ([iz .i64,iz .i64,iz .i64,iz .i64]),3,0,0,[(0,3),(1,3),(2,3),(3,3)],.i64⟩) (.l 99 ⟨4,32,true,some ([iz .i64,iz .i64,iz .i64,iz .i64]),3,0,0,[(0,3),(1,3),(2,3),(3,3)],.i64⟩)))))))) (.n 152 (.n 128 (.n 114 (.n 104 (.n 101 (.n 100 (.l 100 ⟨5,40,true,some ([iz .i64,iz .i64,iz .i64,iz .i64,iz .i64]),3,0,0,[(0,3),(1,3),(2,3),(3,3),(4,3)],.i64⟩) (.l 101 ⟨5,40,true,some ([iz .i64,iz .i64,iz .i64,iz .i64,iz .i64]),3,0,0,[(0,3),(1,3),(2,3),(3,3),(4,3)],.i64⟩)) (.n 103 (.l 103 ⟨1,8,true,some ([.pn]),3,0,0,[(0,96)],.i64⟩) (.l 104 ⟨1,8,true,some ([.pn]),3,0,0,[(0,96)],.i64⟩))) (.n 110 (.n 109 (.l 109 ⟨4,40,true,some ([iz .i64,iz .i64,iz .i64,se]),3,0,0,[(0,3),(1,3),(2,3),(3,9)],.i64⟩) (.l 110 ⟨4,40,true,some ([iz .i64,iz .i64,iz .i64,se]),3,0,0,[(0,3),(1,3),(2,3),(3,9)],.i64⟩)) (.n 113 (.l 113 ⟨1,8,false,some ([.pn]),7,115,0,[],.i64⟩) (.l 114 ⟨7,88,true,some ([ro 4,iz .i64,iz .i64,iz .i64,ro 6,iz .i64,iz .i64]),3,0,0,[(0,65),(1,3),(2,3),(3,3),(4,41),(5,31),(6,3)],.i64⟩)))) (.n 119 (.n 117 (.n 115 (.l 115 ⟨7,88,true,some ([ro 4,iz .i64,iz .i64,iz .i64,ro 6,iz .i64,iz .i64]),3,0,0,[(0,65),(1,3),(2,3),(3,3),(4,41),(5,31),(6,3)],.i64⟩) (.l 117 ⟨1,24,false,some ([ro 1]),1,9,0,[],.i64⟩)) (.n 118 (.l 118 ⟨6,80,true,some ([iz .i64,iz .i64,iz .i64,iz .i64,ro 1,ro 1]),3,0,0,[(0,3),(1,3),(2,3),(3,3),(4,117),(5,22)],.i64⟩) (.l 119 ⟨6,80,true,some ([iz .i64,.ui,iz .i64,iz .i64,rf 1,rf 1]),3,0,0,[(0,3),(1,3),(2,3),(3,3),(4,117),(5,22)],.i64⟩))) (.n 126 (.n 125 (.l 125 ⟨1,8,false,some ([iz .u64]),5,0,0,[],.u64⟩) (.l 126 ⟨7,56,true,some ([iz .u64,iz .u64,iz .u64,iz .u64,iz .u64,iz .u64,iz .u64]),2,125,7,[],.i64⟩)) (.n 127 (.l 127 ⟨7,56,true,some ([iz .u64,iz .u64,iz .u64,iz .u64,iz .u64,iz .u64,iz .u64]),3,0,0,[(0,126)],.i64⟩) (.l 128 ⟨7,56,true,some ([iz .u64,iz .u64,iz .u64,iz .u64,iz .u64,iz .u64,iz .u64]),3,0,0,[(0,126)],.i64⟩))))) (.n 140 (.n 136 (.n 130 (.n 129 (.l 129 ⟨13,136,true,some (List.replicate 4 (iz .i64) ++List.replicate 2 (ro 1) ++List.replicate 7 (iz .u64)),3,0,0,[(0,3),(1,3),(2,3),(3,3),(4,22),(5,22),(6,128)],.i64⟩) (.l 130 ⟨13,136,true,some (List.replicate 1 (iz .i64) ++List.replicate 1 (.ui) ++List.replicate 2 (iz .i64) ++List.replicate 1 (rf 1) ++List.replicate 1 (ro 1) ++List.replicate 7 (iz .u64)),3,0,0,[(0,3),(1,3),(2,3),(3,3),(4,22),(5,22),(6,128)],.i64⟩)) (.n 135 (.l 135 ⟨9,72,true,some ([iz .i64,bf,iz .u64,iz .u64,iz .u64,iz .u64,iz .u64,iz .u64,iz .u64]),3,0,0,[(0,3),(1,4),(2,128)],.i64⟩) (.l 136 ⟨9,72,true,some ([iz .i64,bf,iz .u64,iz .u64,iz .u64,iz .u64,iz .u64,iz .u64,iz .u64]),3,0,0,[(0,3),(1,4),(2,128)],.i64⟩))) (.n 138 (.n 137 (.l 137 ⟨2,16,true,some ([iz .i64,iz .i64]),3,0,0,[(0,3),(1,3)],.i64⟩) (.l 138 ⟨2,16,true,some ([iz .i64,iz .i64]),3,0,0,[(0,3),(1,3)],.i64⟩)) (.n 139 (.l 139 ⟨800,6400,true,some (List.replicate 800 (iz .i64)),2,138,400,[],.i64⟩) (.l 140 ⟨802,6416,true,some (List.replicate 802 (iz .i64)),3,0,0,[(0,139),(800,3),(801,3)],.i64⟩)))) (.n 147 (.n 145 (.n 141 (.l 141 ⟨802,6416,true,some (List.replicate 802 (iz .i64)),3,0,0,[(0,139),(800,3),(801,3)],.i64⟩) (.l 145 ⟨2,16,true,some ([bf,iz .i64]),3,0,0,[(0,4),(1,3)],.i64⟩)) (.n 146 (.l 146 ⟨2,16,true,some ([bf,iz .i64]),3,0,0,[(0,4),(1,3)],.i64⟩) (.l 147 ⟨16,128,true,some (List.replicate 1 (bf) ++List.replicate 1 (iz .i64) ++List.replicate 1 (bf) ++List.replicate 1 (iz .i64) ++List.replicate 1 (bf) ++List.replicate 1 (iz .i64) ++List.replicate 1 (bf) ++List.replicate 1 (iz .i64) ++List.replicate 1 (bf) ++List.replicate 1 (iz .i64) ++List.replicate 1 (bf) ++List.replicate 1 (iz .i64) ++List.replicate 1 (bf) ++List.replicate 1 (iz .i64) ++List.replicate 1 (bf) ++List.replicate 1 (iz .i64)),2,146,8,[],.i64⟩))) (.n 149 (.n 148 (.l 148 ⟨1,24,false,some ([ro 2]),1,181,0,[],.i64⟩) (.l 149 ⟨1,24,false,some ([ro 5]),1,233,0,[],.i64⟩)) (.n 150 (.l 150 ⟨5,72,true,some ([iz .i64,iz .i64,iz .i64,ro 5,ro 1]),3,0,0,[(0,3),(1,3),(2,3),(3,149),(4,22)],.i64⟩) (.n 151 (.l 151 ⟨5,72,true,some ([iz .i64,iz .i64,iz .i64,ro 5,ro 1]),3,0,0,[(0,3),(1,3),(2,3),(3,149),(4,22)],.i64⟩) (.l 152 ⟨35,408,true,some (List.replicate 1 (rf 4) ++List.replicate 1 (rf 1) ++List.replicate 1 (rf 5) ++List.replicate 1 (iz .i64) ++List.replicate 1 (ro 1) ++List.replicate 1 (iz .i64) ++List.replicate 1 (bf) ++List.replicate 1 (iz .i64) ++List.replicate 1 (bf) ++List.replicate 1 (iz .i64) ++List.replicate 1 (bf) ++List.replicate 1 (iz .i64) ++List.replicate 1 (bf) ++List.replicate 1 (iz .i64) ++List.replicate 1 (bf) ++List.replicate 1 (iz .i64) ++List.replicate 1 (bf) ++List.replicate 1 (iz .i64) ++List.replicate 1 (bf) ++List.replicate 1 (iz .i64) ++List.replicate 1 (bf) ++List.replicate 1 (iz .i64) ++List.replicate 1 (ro 2) ++List.replicate 3 (iz .i64) ++List.replicate 1 (ro 5) ++List.replicate 1 (ro 1) ++List.replicate 4 (iz .i64) ++List.replicate 1 (ro 1) ++List.replicate 2 (iz .i64)),3,0,0,[(0,52),(3,3),(4,22),(5,3),(6,147),(22,148),(23,151),(28,3),(29,31),(30,3),(31,3),(32,22),(33,3),(34,3)],.i64⟩))))))) (.n 196 (.n 180 (.n 157 (.n 155 (.n 153 (.l 153 ⟨35,408,true,some (List.replicate 1 (rf 4) ++List.replicate 1 (rf 1) ++List.replicate 1 (rf 5) ++List.replicate 1 (iz .i64) ++List.replicate 1 (ro 1) ++List.replicate 1 (iz .i64) ++List.replicate 1 (bf) ++List.replicate 1 (iz .i64) ++List.replicate 1 (bf) ++List.replicate 1 (iz .i64) ++List.replicate 1 (bf) ++List.replicate 1 (iz .i64) ++List.replicate 1 (bf) ++List.replicate 1 (iz .i64) ++List.replicate 1 (bf) ++List.replicate 1 (iz .i64) ++List.replicate 1 (bf) ++List.replicate 1 (iz .i64) ++List.replicate 1 (bf) ++List.replicate 1 (iz .i64) ++List.replicate 1 (bf) ++List.replicate 1 (iz .i64) ++List.replicate 1 (ro 2) ++List.replicate 3 (iz .i64) ++List.replicate 1 (ro 5) ++List.replicate 1 (ro 1) ++List.replicate 2 (iz .i64) ++List.replicate 1 (.ui) ++List.replicate 1 (iz .i64) ++List.replicate 1 (ro 1) ++List.replicate 2 (iz .i64)),3,0,0,[(0,52),(3,3),(4,22),(5,3),(6,147),(22,148),(23,151),(28,3),(29,31),(30,3),(31,3),(32,22),(33,3),(34,3)],.i64⟩) (.l 155 ⟨1,8,false,some ([.pn]),7,157,0,[],.i64⟩)) (.n 156 (.l 156 ⟨5,96,true,some ([se,iz .i64,rf 4,rf 1,rf 5]),3,0,0,[(0,9),(1,3),(2,52)],.i64⟩) (.l 157 ⟨5,96,true,some ([se,iz .i64,ro 4,ro 1,ro 5]),3,0,0,[(0,9),(1,3),(2,52)],.i64⟩))) (.n 174 (.n 173 (.l 173 ⟨2,24,true,some ([se,iz .i64]),3,0,0,[(0,9),(1,3)],.i64⟩) (.l 174 ⟨2,24,true,some ([se,iz .i64]),3,0,0,[(0,9),(1,3)],.i64⟩)) (.n 179 (.l 179 ⟨1,24,false,some ([ro 2]),1,146,0,[],.i64⟩) (.l 180 ⟨2,32,true,some ([iz .i64,ro 2]),3,0,0,[(0,3),(1,179)],.i64⟩)))) (.n 186 (.n 184 (.n 181 (.l 181 ⟨2,32,true,some ([iz .i64,ro 2]),3,0,0,[(0,3),(1,179)],.i64⟩) (.l 184 ⟨1,8,false,some ([iz .u64]),5,0,0,[],.u64⟩)) (.n 185 (.l 185 ⟨6,96,true,some ([rf 4,rf 1,rf 5,iz .i64,iz .i64,iz .i64]),3,0,0,[(0,52),(3,3),(4,3),(5,3)],.i64⟩) (.l 186 ⟨6,96,true,some ([rf 4,rf 1,rf 5,iz .i64,iz .i64,iz .i64]),3,0,0,[(0,52),(3,3),(4,3),(5,3)],.i64⟩))) (.n 193 (.n 188 (.l 188 ⟨1,8,false,some ([.pn]),7,213,0,[],.i64⟩) (.l 193 ⟨35,560,true,some (List.replicate 35 (se)),2,9,35,[],.i64⟩)) (.n 194 (.l 194 ⟨1,8,false,some ([.pn]),7,79,0,[],.i64⟩) (.n 195 (.l 195 ⟨3,40,true,some ([iz .i64,ro 1,iz .i64]),3,0,0,[(0,3),(1,22),(2,3)],.i64⟩) (.l 196 ⟨3,40,true,some ([iz .i64,rf 1,iz .i64]),3,0,0,[(0,3),(1,22),(2,3)],.i64⟩)))))) (.n 219 (.n 213 (.n 211 (.n 209 (.l 209 ⟨34,544,true,some (List.replicate 34 (se)),2,9,34,[],.i64⟩) (.l 211 ⟨1,24,false,some ([ro 18]),1,219,0,[],.i64⟩)) (.n 212 (.l 212 ⟨5,104,true,some ([rf 4,rf 1,rf 5,iz .i64,ro 18]),3,0,0,[(0,52),(3,3),(4,211)],.i64⟩) (.l 213 ⟨5,104,true,some ([rf 4,rf 1,rf 5,iz .i64,ro 18]),3,0,0,[(0,52),(3,3),(4,211)],.i64⟩))) (.n 217 (.n 215 (.l 215 ⟨1,8,false,some ([.pn]),7,219,0,[],.i64⟩) (.l 217 ⟨16,128,true,some (List.replicate 16 (iz .u64)),2,125,16,[],.i64⟩)) (.n 218 (.l 218 ⟨18,144,true,some (List.replicate 1 (bf) ++List.replicate 1 (iz .i64) ++List.replicate 16 (iz .u64)),3,0,0,[(0,4),(1,3),(2,217)],.i64⟩) (.l 219 ⟨18,144,true,some (List.replicate 1 (bf) ++List.replicate 1 (iz .i64) ++List.replicate 16 (iz .u64)),3,0,0,[(0,4),(1,3),(2,217)],.i64⟩)))) (.n 246 (.n 232 (.n 230 (.l 230 ⟨1,8,false,some ([.pn]),7,151,0,[],.i64⟩) (.l 232 ⟨5,56,true,some ([bf,iz .i64,ro 2,iz .i64,bf]),3,0,0,[(0,4),(1,3),(2,179),(3,3),(4,4)],.i64⟩)) (.n 233 (.l 233 ⟨5,56,true,some ([bf,iz .i64,ro 2,iz .i64,bf]),3,0,0,[(0,4),(1,3),(2,179),(3,3),(4,4)],.i64⟩) (.l 246 ⟨1,8,false,some ([.pn]),7,248,0,[],.i64⟩))) (.n 248 (.n 247 (.l 247 ⟨2,32,true,some ([.pn,ro 1]),3,0,0,[(0,194),(1,22)],.i64⟩) (.l 248 ⟨2,32,true,some ([.pn,ro 1]),3,0,0,[(0,194),(1,22)],.i64⟩)) (.n 253 (.l 253 ⟨24,24,true,some (List.replicate 24 (iz .u8)),2,5,24,[],.i64⟩) (.n 258 (.l 258 ⟨4,40,true,some ([se,iz .i64,iz .i64,iz .i64]),3,0,0,[(0,9),(1,3),(2,3),(3,3)],.i64⟩) (.l 259 ⟨4,40,true,some ([se,.ui,iz .i64,iz .i64]),3,0,0,[(0,9),(1,3),(2,3),(3,3)],.i64⟩))))))))
theorem jUN (t:Nat) (h:(tys.g t).kd≠0):tys.g t={jJR Tryz.prog t with z:=(tys.g t).z}/\∀l,(tys.g t).z=some l->(jJR Tryz.prog t).z.map (msk l)=some (l.map zn):=rows_ok (l:=tys.all) (by kernel_rfl) _ (tys.g_in t h)
end V
end Go.Proofs.YtnhbcdnmfafbiaaGreatDoor
namespace Go.Proofs.YtnhbcdnmfafbiaaGreatDoor
namespace V
open Go.Proofs
def mdL:List (Nat × List Nat):=[(27,[2]),(46,[2,0]),(98,[2,0,0]),(47,[0,0]),(105,[0,0]),(106,[0,0]),(107,[0,0]),(187,[0]),(104,[0]),(102,[3,0]),(103,[3,0]),(55,[4,0]),(56,[3,0]),(29,[3,0]),(51,[3,0]),(52,[3,0]),(53,[3,0]),(15,[0]),(40,[0,0]),(54,[0,0,0]),(25,[0]),
 (14,[0]),(28,[3,0]),(45,[]),(48,[3,0]),(49,[3,0,0,0]),(50,[3,0,0]),(92,[3]),(93,[3,0]),(94,[3,0,0,0]),(95,[3,0,0]),(96,[3,0,0]),(97,[3,0,0]),(99,[3,0,0]),(100,[3,0,0]),(101,[3,0,0]),(137,[4,0]),(138,[3,0,0]),(139,[3,0,0,0]),(140,[3,0]),(141,[3,0,0,0]),(142,[3,0,0]),(143,[3,0,0]),(144,[3,0,0]),(145,[3,0,0]),(146,[3,0,0,0]),(182,[3,0,0]),(183,[4,0]),(184,[3,0,0,0,0]),(185,[4,0]),(186,[4,0,0,0]),(188,[3,0,0,0]),(189,[3,0,0,0]),(220,[4,0,0]),(221,[4,0]),
 (57,[3,0,0]),(58,[3]),(59,[4]),(110,[3,0]),(111,[3,0]),(112,[3,0]),(113,[3,0]),(114,[3,0]),(115,[3,0]),(116,[3,0]),(117,[3,0]),(118,[3]),(119,[3]),(147,[4,0]),(148,[3,0,0]),(149,[3,0,0]),(150,[4,0]),(151,[3,0,0]),(152,[0]),(153,[0,0,0]),(154,[3,0,0,0]),(155,[3,0,0]),(156,[3,0,0,0]),(157,[3,0,0,0]),(158,[3,0,0,0]),(159,[4,0]),(160,[3]),(191,[4,0]),(192,[3,0,0]),(193,[0]),(194,[3,0]),(195,[3]),(196,[4,0]),(197,[4,0,0]),(198,[3,0,0,0]),(199,[4,0]),(222,[3,1,0]),(223,[3,1,0]),(224,[3]),(30,[0,0,0,0]),(31,[3,0]),
 (17,[0]),(32,[1,0,0]),(33,[0]),(60,[0]),(61,[3,0,0]),(62,[0,0,0]),(63,[3,0]),(64,[3,0]),(108,[2,0]),(109,[0,0]),(190,[0,0]),(122,[0,0]),(120,[4,0]),(121,[0]),
 (13,[0]),(26,[0]),(44,[3,0,0,0]),(90,[3,0,0]),(91,[3,0,0,0]),(135,[3,0,0]),(136,[3,0,0,0]),(173,[3,0,0]),(174,[3,0,0]),(175,[3,0,0]),(176,[3,0,0]),(177,[3,0,0]),(178,[3,0,0,0,0]),(179,[3,0,0]),(180,[3,0,0]),(181,[3,0,0]),(209,[3,0,0,0]),(210,[3,0,0]),(211,[3,0]),(212,[3,0,0,0]),(213,[3,0,0]),(214,[3,0,0]),(215,[3,0,0]),(216,[3,0,0]),(217,[3,0,0]),(218,[3,0,0]),(230,[4,0]),(231,[4,0]),(232,[3,0,0]),(233,[3,0,0]),(240,[4,0]),
 (3,[0,0,0,0,0]),(4,[0,0,0,0,0]),(5,[4,0]),(6,[]),(7,[4,0]),(8,[4,0]),(9,[0,0,0,0,0]),(10,[0,0]),(11,[0]),(12,[0]),(18,[]),(19,[3,0,0,0,0]),(20,[3,0]),(21,[0,0]),(22,[0]),(23,[0,0]),(24,[3,0,0]),(34,[0]),(35,[0,0]),(36,[0,0]),(37,[0,0]),(38,[3]),(39,[3,0]),(41,[0]),(42,[3,0,0]),(43,[3,0]),(65,[0]),(66,[0]),(67,[0]),(68,[0,0]),(69,[0,0,0]),(70,[0]),(71,[0,0]),(72,[0]),(73,[0,0]),(74,[0]),(75,[4]),(76,[3]),(77,[3]),(78,[3]),(79,[3]),(80,[3,0]),(81,[3]),(82,[3,0]),(83,[3,0,0]),(84,[3,0,0,0]),(85,[3,0,0]),(86,[3,0,0]),(87,[3,0,0,0]),(88,[0]),(89,[3,0]),(123,[0]),(124,[0,0]),(125,[3]),(126,[4]),(127,[3]),(128,[3]),(129,[3,0]),(130,[3]),(131,[3]),(132,[3,0,0,0,0]),(133,[0]),(134,[0,0]),(161,[0]),(162,[0,0,0]),(163,[3,0,5]),(167,[3,0,0,5]),(164,[0]),(165,[4,0,4]),(166,[3,0]),(168,[3,0]),(169,[3]),(170,[3]),(171,[4]),(200,[3,4]),(201,[0]),(202,[0]),(203,[4,0]),(204,[4,0]),(205,[3,0]),(206,[3,0]),(207,[3]),(225,[3]),(234,[3]),(241,[3,0,0]),(242,[3]),(243,[4]),(244,[4,0]),(247,[3]),(248,[3])]
def mdG:List (Nat × List Nat)->Nat->List Nat
 |[],_=>[]
 |(k,l) ::r,f=>cond (Nat.beq k f) l (mdG r f)
noncomputable def T:Tb:=⟨Tryz.prog,tys.g,fun _=>none,mdG mdL,by kernel_rfl,fun _ _=>rfl,jUN⟩
def I (n:Int):C:=.i .i64 n
def pI (n:Int):Arg:=.pl (.c (I n))
def pB (b:Bool):Arg:=.pl (.c (.b b))
def eI:El:=⟨Int,fun n=>[I n]⟩
def h0:Hx:=⟨fun _=>eI,false,fun _=>none,false,false⟩
def hy:Hy:=⟨h0,[],[],[]⟩
def zN {β:Type}(b0:β) (q:β->Bool) (h:∀b,q b=true->b=b0):Pz β:=⟨Unit,fun _=>b0,fun b=>if q b then some () else none,fun b x e=>by
 split at e
 .rename_i hq;exact h b hq
 .cases e⟩
def r0:Pz (List Arg):=zN [] List.isEmpty fun _ h=>List.isEmpty_iff.1 h
def b0:Pz (List (List C)):=zN [] List.isEmpty fun _ h=>List.isEmpty_iff.1 h
def rI:Pz (List Arg):=⟨Int,fun n=>[pI n],fun l=>match l with
 |[.pl (.c (.i .i64 n))]=>some n
 |_=>none,fun b x e=>by split at e <;> cases e;rfl⟩
def rB:Pz (List Arg):=⟨Bool,fun n=>[pB n],fun l=>match l with
 |[.pl (.c (.b n))]=>some n
 |_=>none,fun b x e=>by split at e <;> cases e;rfl⟩
def rR (z:Nat):Pz (List Arg):=⟨List (List C),fun l=>[.pl (.c (.r false z l))],fun l=>match l with
 |[.pl (.c (.r false z' l))]=>if z'=z then some l else none
 |_=>none,fun b x e=>by
  split at e
  .split at e
   .rename_i h;cases e;rw[h]
   .cases e
  .cases e⟩
def rS (S:Pz (List C)):Pz (List Arg):=⟨S.α,fun x=>[.pl (.ag (S.f x))],fun l=>match l with
 |[.pl (.ag l)]=>S.un l
 |_=>none,fun b x e=>by
  split at e
  .rw[S.ok _ _ e]
  .cases e⟩
def bS (S:Pz (List C)):Pz (List (List C)):=⟨S.α,fun x=>[S.f x],fun l=>match l with
 |[l]=>S.un l
 |_=>none,fun b x e=>by
  split at e
  .rw[S.ok _ _ e]
  .cases e⟩
def eS (S:Pz (List C)):El:=⟨S.α,S.f⟩
def tA (r:Nat):Rd Av:=ofP ⟨Unit,fun _=>.pa ⟨r,0,[]⟩,fun v=>match v with
 | .pa ⟨r',0,[]⟩=>if r'=r then some () else none
 |_=>none,fun b x e=>by
  split at e
  .split at e
   .rename_i h;rw[h]
   .cases e
  .cases e⟩
def tI:Rd Av:=ofP ⟨Int,fun n=>.c (.i .i64 n),fun v=>match v with
 | .c (.i .i64 n)=>some n
 |_=>none,fun b x e=>by split at e <;> cases e;rfl⟩
def tB:Rd Av:=ofP ⟨Bool,fun n=>.c (.b n),fun v=>match v with
 | .c (.b n)=>some n
 |_=>none,fun b x e=>by split at e <;> cases e;rfl⟩
def tS:Rd Av:=ofP ⟨ByteArray,fun n=>.c (.s n),fun v=>match v with
 | .c (.s n)=>some n
 |_=>none,fun b x e=>by split at e <;> cases e;rfl⟩
def tR (z:Nat):Rd Av:=ofP ⟨List (List C),fun l=>.c (.r false z l),fun v=>match v with
 | .c (.r false z' l)=>if z'=z then some l else none
 |_=>none,fun b x e=>by
  split at e
  .split at e
   .rename_i h;cases e;rw[h]
   .cases e
  .cases e⟩
def tL (r:Nat):Rd Av:=ofP ⟨Unit,fun _=>.lo ⟨r,0,[]⟩,fun v=>match v with
 | .lo ⟨r',0,[]⟩=>if r'=r then some () else none
 |_=>none,fun b x e=>by
  split at e
  .split at e
   .rename_i h;rw[h]
   .cases e
  .cases e⟩
def rX (kd:Nat) (S:Pz (List C)):Rd Rt:=ofP ⟨S.α,fun x=>⟨kd,S.f x⟩,fun v=>if v.kd=kd then S.un v.cs else none,fun b x e=>by
    split at e
    .rename_i h;cases b;rw[<-S.ok _ _ e,<-h]
    .cases e⟩
def fO (z:Nat):Pz (List C):=⟨List (List C),fun l=>[.r true z l],fun v=>match v with
 |[.r true z' l]=>if z'=z then some l else none
 |_=>none,fun b x e=>by
  split at e
  .split at e
   .rename_i h;cases e;rw[h]
   .cases e
  .cases e⟩
def Rw (S:Pz (List C)) (p:S.α->Prop) (l:List (List C)):Prop:=∀e ∈ l,∃x,e=S.f x/\p x
def Tt {α:Type}(_:α):Prop:=True
def fI:Pz (List C):=⟨Int,fun n=>[I n],fun l=>match l with
 |[.i .i64 n]=>some n
 |_=>none,fun b x e=>by split at e <;> cases e;rfl⟩
def Ri:List (List C)->Prop:=Rw fI Tt
theorem Rw.at {S:Pz (List C)}{p:S.α->Prop}{l:List (List C)}(h:Rw S p l) {j:Nat}(B:j<l.length):∃x,l[j]? =some (S.f x):=by
 obtain⟨x,e,_⟩:=h _ (List.getElem_mem B);exact⟨x,by rw[List.getElem?_eq_getElem B,e]⟩
theorem Rw.app {S:Pz (List C)}{p:S.α->Prop}{l m:List (List C)}(h:Rw S p l) (B:Rw S p m):Rw S p (l ++m):=fun e he=>by
 rcases List.mem_append.1 he with q|q
 .exact h e q
 .exact B e q
theorem Rw.nil {S:Pz (List C)}{p:S.α->Prop}:Rw S p []:=fun e he=>by cases he
theorem Rw.one {S:Pz (List C)}{p:S.α->Prop}{x:S.α}(h:p x):Rw S p [S.f x]:=fun e he=>by
 simp only[List.mem_singleton]at he;exact⟨x,he,h⟩
def ct0:Cts:=fun _ _=>none
theorem jJV:Good T ct0:=fun _ _ _ h=>by cases h
def ctp (f:Nat) (c:List Arg->Option Ct) (ct:Cts):Cts:=fun g xs=>cond (Nat.beq f g) (c xs) (ct g xs)
theorem jKu {f:Nat}{c:List Arg->Option Ct}{ct:Cts}(h:Good T ct) (B:∀xs k,c xs=some k->k.pr->Tot T k f xs):Good T (ctp f c ct):=fun g xs k e hp=>by
 unfold ctp at e
 cases hb :Nat.beq f g with
 |true=>
  rw[hb]at e;rw[<-Nat.eq_of_beq_eq_true hb];exact B xs k e hp
 |false=>
  rw[hb]at e;exact h g xs k e hp
end V
end Go.Proofs.YtnhbcdnmfafbiaaGreatDoor
set_option maxRecDepth 100000
namespace Go.Proofs.YtnhbcdnmfafbiaaGreatDoor
namespace V
open Go.Proofs
def U (n:Int):C:=.i .u64 n
structure S7 where
 (a b c d e f g:Int)
def fS:Pz (List C):=⟨S7,fun x=>[U x.a,U x.b,U x.c,U x.d,U x.e,U x.f,U x.g],fun l=>match l with
 |[.i .u64 a,.i .u64 b,.i .u64 c,.i .u64 d,.i .u64 e,.i .u64 f,.i .u64 g]=>some ⟨a,b,c,d,e,f,g⟩
 |_=>none,fun b x e=>by split at e <;> cases e;rfl⟩
def pS (s:S7):Arg:=.pl (.ag (fS.f s))
structure inI (n:Int):Prop where
 lo: -9223372036854775808<=n
 hi:n<=9223372036854775807
def hx (sp:Bool):Hx:=⟨fun _=>eI,sp,fun _=>none,false,false⟩
def W64 (n:Int):Int:=IntKind.i64.wrap (n.tdiv 64)
def Q64 (n:Int):Int:=IntKind.i64.wrap ↑(BitVec.ofInt IntKind.i64.bits n &&& BitVec.ofInt IntKind.i64.bits 63).toNat
def al7 (m:Int) (P:Nat->Prop):Prop:=((((((True/\(m=0->P 0))/\(m=1->P 1))/\(m=2->P 2))/\(m=3->P 3))/\(m=4->P 4))/\(m=5->P 5))/\(m=6->P 6)
theorem jUk {m:Int}{P:Nat->Prop}(h:∀j:Nat,m=j->j<7->P j):al7 m P:=⟨⟨⟨⟨⟨⟨⟨trivial,fun e=>h 0 e (by omega)⟩,fun e=>h 1 e (by omega)⟩,fun e=>h 2 e (by omega)⟩,fun e=>h 3 e (by omega)⟩,fun e=>h 4 e (by omega)⟩,fun e=>h 5 e (by omega)⟩,fun e=>h 6 e (by omega)⟩
theorem w64 {n:Int}(h:inI n) (h0:0<=n):W64 n=n / 64:=IntWalk.i64_quo n 64 ⟨h0,h.2,by omega⟩
theorem q64 (n:Int):¬Q64 n<0:=by
 unfold Q64
 have h:(BitVec.ofInt IntKind.i64.bits n &&& BitVec.ofInt IntKind.i64.bits 63).toNat<=63:=by
  rw[BitVec.toNat_and];refine Nat.le_trans Nat.and_le_right ?_
  decide
 rw[IntKind.wrap_i64];omega
theorem w7 {n:Int}(h:inI n) (h0:decide (n>=0)=true) (B:decide (W64 n<7)=true):0<=W64 n/\W64 n<(7:Nat):=by
 have h0:n>=0:=of_decide_eq_true h0;have B:W64 n<7:=of_decide_eq_true B;rw[w64 h h0]at B ⊢;omega
def cB:Ct:=mkc rB b0 (fun _ _=>True) True
def cS:Ct:=mkc (rS fS) b0 (fun _ _=>True) True
def wd (n:Int) (P Q R:Prop):Prop:=(64:Int)≠0/\br (decide (n>=0)) (br (decide (W64 n<7)) ((0<=W64 n/\W64 n<(7:Nat))/\al7 (W64 n) fun j=>¬Q64 n<0/\P) Q) R
def wd2 (n:Int) (P Q R:Prop):Prop:=(64:Int)≠0/\br (decide (n>=0)) (br (decide (W64 n<7)) ((0<=W64 n/\W64 n<(7:Nat))/\al7 (W64 n) fun j=>¬Q64 n<0/\(W64 n=(j:Int)/\j<7)/\P) Q) R
theorem jUG {n:Int}{P Q R:Prop}(h:inI n) (p:P) (q:Q) (r:R):wd n P Q R:=⟨by omega,fun h0=>⟨fun h1=>⟨w7 h h0 h1,jUk fun j _ _=>⟨q64 n,p⟩⟩,fun _=>q⟩,fun _=>r⟩
theorem jRp {n:Int}{P Q R:Prop}(h:inI n) (p:P) (q:Q) (r:R):wd2 n P Q R:=⟨by omega,fun h0=>⟨fun h1=>⟨w7 h h0 h1,jUk fun j e l=>⟨q64 n,⟨e,l⟩,p⟩⟩,fun _=>q⟩,fun _=>r⟩
theorem jTj (s:S7) {n:Int}(h:inI n):Tot T cB 47 [pS s,pI n]:=vF (⟨hx true,[],[],[]⟩) jJV Tryz.func47 (wd n True True True) (by kernel_rfl) (jUG h trivial trivial trivial)
theorem jX5 (s t:S7):Tot T cS 105 [pS s,pS t]:=vF (⟨⟨fun _=>eI,false,fun _=>none,false,true⟩,[],[],[(2,.un 8)]⟩) jJV Tryz.func105 True (by kernel_rfl) trivial
theorem jRm (s:S7) {n:Int}(h:inI n):Tot T cS 106 [pS s,pI n]:=vF (⟨hx true,[],[],[]⟩) jJV Tryz.func106 (wd2 n True True (false=false/\True)) (by kernel_rfl) (jRp h trivial trivial ⟨rfl,trivial⟩)
end V
end Go.Proofs.YtnhbcdnmfafbiaaGreatDoor
set_option maxRecDepth 100000
namespace Go.Proofs.YtnhbcdnmfafbiaaGreatDoor
namespace V
open Go.Proofs
abbrev wr (n:Int):Int:=IntKind.i64.wrap n
structure Ix (n:Nat) (i:Int):Prop where
 lo:0<=i
 hi:i<=n
def ixM (n:Nat) (i:Int):Nat:=(n-i).toNat
theorem Ix.nx {n:Nat}{i:Int}(h:Ix n i) (hn:n<=4000000000) (hi:decide (i<(n:Int))=true):Ix n (wr (i+1))/\ixM n (wr (i+1))<ixM n i:=by
 have B:=h.lo;have h2:i<n:=of_decide_eq_true hi;unfold ixM wr;rw[IntKind.wrap_i64];refine⟨⟨by omega,by omega⟩,by omega⟩
theorem Ix.lt {n:Nat}{i:Int}(h:Ix n i) (hi:decide (i<(n:Int))=true):i.toNat<n:=by
 have B:=h.lo;have h2:i<n:=of_decide_eq_true hi;omega
theorem Rw.of {S:Pz (List C)}{p:S.α->Prop}{l:List (List C)}(h:Rw S p l) {j:Nat}{e:List C}(B:l[j]? =some e):∃x,e=S.f x/\p x:=h e (List.mem_of_getElem? B)
theorem Rw.int {p:Int->Prop}{l:List (List C)}(h:Rw fI p l) {j:Nat}{x:Int}(B:l[j]? =some [I x]):p x:=by
 obtain⟨y,e,hy⟩:=h.of B
 have:x=y:=by
  have e:[C.i .i64 x]=[C.i .i64 y]:=e;injection e with e;injection e
 rw[this];exact hy
theorem Rw.ati {S:Pz (List C)}{p:S.α->Prop}{l:List (List C)}(h:Rw S p l) (n:Int):0<=n->n<l.length->∃x,l[n.toNat]? =some (S.f x):=fun h0 h1=>h.at (by omega)
theorem dt {p:Prop}[Decidable p] (h:decide p=true):p:=of_decide_eq_true h
theorem df {p:Prop}[Decidable p] (h:decide p=false):¬p:=of_decide_eq_false h
def woT:Rl Av:=.cons 2 (tA 2) <| .cons 4 (tA 4) <| .cons 8 (tR 1) <| .cons 9 tI <| .cons 10 tI .nil
def woR:Rl Rt:=.cons 2 (rX 1 fS) <| .cons 4 (rX 1 fS) .nil
structure WoI (l l':List (List C)) (n i:Int):Prop where
 e:l'=l
 n:n=l.length
 i:Ix l.length i
def woH (l:List (List C)):Hy:=⟨hx true,[],[],[(2,.iv woT woR (fun a=>WoI l a.1.2.2.1 a.1.2.2.2.1 a.1.2.2.2.2.1) fun a=>ixM l.length a.1.2.2.2.2.1)]⟩
theorem jRl (s:S7) (l:List (List C)) (h:Rw fI inI l) (hl:l.length<=4000000000):Tot T cS 107 [pS s,.pl (.c (.r false 1 l))]:=vF (woH l) jJV Tryz.func107 (WoI l l ↑l.length 0/\∀(a:(Unit × Unit × List (List C) × Int × Int × Unit) × S7 × S7 × Unit),WoI l a.1.2.2.1 a.1.2.2.2.1 a.1.2.2.2.2.1->br (decide (a.1.2.2.2.2.1<a.1.2.2.2.1)) (0<=a.1.2.2.2.2.1/\(∃(y:Int),a.1.2.2.1[Int.toNat a.1.2.2.2.2.1]? =some [I y])/\∀(x:Int),a.1.2.2.1[Int.toNat a.1.2.2.2.2.1]? =some [I x]->(64:Int)≠0/\br (decide (x>=0)) (br (decide (wr (x.tdiv 64)<7)) ((0<=wr (x.tdiv 64)/\wr (x.tdiv 64)<↑7)/\((((((True/\(wr (x.tdiv 64)=0->¬wr ↑(BitVec.ofInt IntKind.i64.bits x &&& BitVec.ofInt IntKind.i64.bits 63).toNat<0/\(wr (x.tdiv 64)=0/\0<7)/\WoI l a.1.2.2.1 a.1.2.2.2.1 (wr (a.1.2.2.2.2.1+1))/\ixM l.length (wr (a.1.2.2.2.2.1+1))<ixM l.length a.1.2.2.2.2.1))/\(wr (x.tdiv 64)=1->¬wr ↑(BitVec.ofInt IntKind.i64.bits x &&& BitVec.ofInt IntKind.i64.bits 63).toNat<0/\(wr (x.tdiv 64)=1/\1<7)/\WoI l a.1.2.2.1 a.1.2.2.2.1 (wr (a.1.2.2.2.2.1+1))/\ixM l.length (wr (a.1.2.2.2.2.1+1))<ixM l.length a.1.2.2.2.2.1))/\(wr (x.tdiv 64)=2->¬wr ↑(BitVec.ofInt IntKind.i64.bits x &&& BitVec.ofInt IntKind.i64.bits 63).toNat<0/\(wr (x.tdiv 64)=2/\2<7)/\WoI l a.1.2.2.1 a.1.2.2.2.1 (wr (a.1.2.2.2.2.1+1))/\ixM l.length (wr (a.1.2.2.2.2.1+1))<ixM l.length a.1.2.2.2.2.1))/\(wr (x.tdiv 64)=3->¬wr ↑(BitVec.ofInt IntKind.i64.bits x &&& BitVec.ofInt IntKind.i64.bits 63).toNat<0/\(wr (x.tdiv 64)=3/\3<7)/\WoI l a.1.2.2.1 a.1.2.2.2.1 (wr (a.1.2.2.2.2.1+1))/\ixM l.length (wr (a.1.2.2.2.2.1+1))<ixM l.length a.1.2.2.2.2.1))/\(wr (x.tdiv 64)=4->¬wr ↑(BitVec.ofInt IntKind.i64.bits x &&& BitVec.ofInt IntKind.i64.bits 63).toNat<0/\(wr (x.tdiv 64)=4/\4<7)/\WoI l a.1.2.2.1 a.1.2.2.2.1 (wr (a.1.2.2.2.2.1+1))/\ixM l.length (wr (a.1.2.2.2.2.1+1))<ixM l.length a.1.2.2.2.2.1))/\(wr (x.tdiv 64)=5->¬wr ↑(BitVec.ofInt IntKind.i64.bits x &&& BitVec.ofInt IntKind.i64.bits 63).toNat<0/\(wr (x.tdiv 64)=5/\5<7)/\WoI l a.1.2.2.1 a.1.2.2.2.1 (wr (a.1.2.2.2.2.1+1))/\ixM l.length (wr (a.1.2.2.2.2.1+1))<ixM l.length a.1.2.2.2.2.1))/\(wr (x.tdiv 64)=6->¬wr ↑(BitVec.ofInt IntKind.i64.bits x &&& BitVec.ofInt IntKind.i64.bits 63).toNat<0/\(wr (x.tdiv 64)=6/\6<7)/\WoI l a.1.2.2.1 a.1.2.2.2.1 (wr (a.1.2.2.2.2.1+1))/\ixM l.length (wr (a.1.2.2.2.2.1+1))<ixM l.length a.1.2.2.2.2.1)) (WoI l a.1.2.2.1 a.1.2.2.2.1 (wr (a.1.2.2.2.2.1+1))/\ixM l.length (wr (a.1.2.2.2.2.1+1))<ixM l.length a.1.2.2.2.2.1)) (false=false/\WoI l a.1.2.2.1 a.1.2.2.2.1 (wr (a.1.2.2.2.2.1+1))/\ixM l.length (wr (a.1.2.2.2.2.1+1))<ixM l.length a.1.2.2.2.2.1)) True) (by kernel_rfl) (by
 refine⟨⟨rfl,rfl,by omega,by omega⟩,fun a=>?_⟩;obtain⟨⟨_,_,B,n,i,_⟩,J,z,_⟩:=a;rintro ⟨E,G,hi⟩
 dsimp only at E G hi ⊢
 subst E G;refine⟨fun hb=>⟨hi.lo,h.at (hi.lt hb),fun x hx=>?_⟩,fun _=>trivial⟩;have hn:=hi.nx hl hb
 have nx:WoI B B B.length (wr (i+1))/\ixM B.length (wr (i+1))<ixM B.length i:=⟨⟨rfl,rfl,hn.1⟩,hn.2⟩
 exact jRp (h.int hx) nx nx ⟨rfl,nx⟩)
end V
end Go.Proofs.YtnhbcdnmfafbiaaGreatDoor
set_option maxRecDepth 100000
namespace Go.Proofs.YtnhbcdnmfafbiaaGreatDoor
namespace V
open Go.Proofs
structure N where
 (k w n:Int)
 (b s:List (List C))
 (f:S7)
def fN:Pz (List C):=⟨N,fun x=>I x.k :: .ui ::I x.w ::I x.n :: .r false 1 x.b :: .r false 1 x.s ::fS.f x.f,fun l=>match l with
 | .i .i64 k :: .ui :: .i .i64 w :: .i .i64 n :: .r false 1 b :: .r false 1 s ::f=>match fS.un f with
   |some f=>some ⟨k,w,n,b,s,f⟩
   |none=>none
 |_=>none,fun b x e=>by
  split at e
  .split at e
   .rename_i h;cases e;rw[fS.ok _ _ h];rfl
   .cases e
  .cases e⟩
structure Nr (l:List (List C)):Prop where
 r:Rw fI inI l
 n:l.length<=1000000
structure jKd (x:N):Prop where
 b:Nr x.b
 s:Nr x.s
 i:inI x.n
theorem Nr.nil:Nr []:=⟨Rw.nil,by simp⟩
theorem Nr.int {l:List (List C)}(h:Nr l) {j:Nat}{x:Int}(B:l[j]? =some [I x]):inI x:=h.r.int B
theorem Nr.ati {l:List (List C)}(h:Nr l) (n:Int):0<=n->n<l.length->∃x,l[n.toNat]? =some [I x]:=h.r.ati n
theorem jUt {o:Option (List C)}{a b:Int}(h:o=some [I a]) (B:o=some [I b]):a=b:=by
 rw[h]at B;injection B with e;injection e with e;injection e
theorem jTD {x y:N}(e:fN.f x=fN.f y):x=y:=by
 obtain⟨k,w,n,b,s,⟨a0,B,a2,a3,a4,a5,E⟩⟩:=x;obtain⟨k',w',Y,b',Z,⟨c0,G,J,M,O,P,V⟩⟩:=y;simp only[fN,fS,I,U,List.cons.injEq,C.i.injEq,C.r.injEq,true_and,and_true]at e;obtain⟨rfl,rfl,rfl,rfl,rfl,rfl,rfl,rfl,rfl,rfl,rfl,rfl⟩:=e;rfl
structure Ns (l:List (List C)):Prop where
 r:Rw fN jKd l
 n:l.length<=1000000
theorem Ns.at {l:List (List C)}(h:Ns l) {j:Nat}{x:N}(B:l[j]? =some (fN.f x)):jKd x:=by
 obtain⟨y,e,hy⟩:=h.r.of B;rw[jTD e];exact hy
def nd0:N:=⟨0,0,0,[],[],⟨0,0,0,0,0,0,0⟩⟩
noncomputable def jLs (l:List (List C)) (j:Nat):Int:=open Classical in if h:∃x,l[j]? =some [I x] then h.choose else 0
theorem jL3 {l:List (List C)}{j:Nat}{x:Int}(h:l[j]? =some [I x]):jLs l j=x:=by
 have B:∃x,l[j]? =some [I x]:=⟨x,h⟩
 unfold jLs;rw[dif_pos B];exact jUt B.choose_spec h
noncomputable def jm (ns:List (List C)) (n:Int):N:=open Classical in if h:0<=n/\∃x:N,ns[n.toNat]? =some (fN.f x) then h.2.choose else nd0
theorem jNY {ns:List (List C)}{n:Int}{x:N}(h0:0<=n) (h:ns[n.toNat]? =some (fN.f x)):jm ns n=x:=by
 have B:0<=n/\∃x:N,ns[n.toNat]? =some (fN.f x):=⟨h0,x,h⟩
 unfold jm;rw[dif_pos B];exact jTD (Option.some.inj (B.2.choose_spec.symm.trans h))
theorem jM9 {ns:List (List C)}{n:Int}(h:n<0\/n>=ns.length):jm ns n=nd0:=by
 unfold jm;rw[dif_neg];rintro ⟨h0,x,hx⟩;have:=(List.getElem?_eq_some_iff.1 hx).1;omega
noncomputable def jnF (ns:List (List C)) (n i:Int):Int:=if 0<=i/\i<(jm ns n).s.length/\jLs (jm ns n).s i.toNat<n then jLs (jm ns n).s i.toNat else -1
structure NdX (ns:List (List C)) (n:Int) (x:N):Prop where
 e:jm ns n=x
 ok:jKd x
structure jKh (ns:List (List C)) (n i k:Int):Prop where
 e:jnF ns n i=k
 i:inI k
def cN (ns:List (List C)) (n:Int) (p:Prop):Ct:=mkc (rS fN) b0 (fun x _=>NdX ns n x) p
def hN:Hy:=⟨⟨fun z=>cond (Nat.beq z 13) (eS fN) eI,false,fun _=>none,false,false⟩,[],[],[]⟩
theorem jSs {ns:List (List C)}(h:Ns ns) (n:Int):Tot T (cN ns n True) 46 [.pl (.ag [.r false 13 ns]),pI n]:=vR hN jJV [(4,5)] [false] Tryz.func46 (br (decide (n<0)) (true=true/\pln []/\NdX ns n {k:=0,w:=0,n:=0,b:=[],s:=[],f:={a:=0,b:=0,c:=0,d:=0,e:=0,f:=0,g:=0}}) (br (decide (n>=↑ns.length)) (pln []/\NdX ns n {k:=0,w:=0,n:=0,b:=[],s:=[],f:={a:=0,b:=0,c:=0,d:=0,e:=0,f:=0,g:=0}}) (0<=n/\(∃(y:N),ns[n.toNat]? =some (fN.f y))/\∀(x:N),ns[n.toNat]? =some (fN.f x)->NdX ns n x))) (by kernel_rfl) (by
 have z:n<0\/n>=ns.length->NdX ns n nd0:=fun h=>⟨jM9 h,Nr.nil,Nr.nil,by simp[nd0],by simp[nd0]⟩
 refine⟨fun B=>⟨rfl,rfl,z (.inl (dt B))⟩,fun B=>⟨fun h2=>⟨rfl,z (.inr (dt h2))⟩,fun h2=>?_⟩⟩;have B:=df B;have h2:=df h2
 exact⟨by omega,h.r.ati n (by omega) (by omega),fun x hx=>⟨jNY (by omega) hx,h.at hx⟩⟩)
def k46 (xs:List Arg):Option Ct:=match xs with
 |[.rv [.r false 13 ns] false,.pl (.c (.i .i64 n))]=>some (cN ns n (Ns ns))
 |_=>none
theorem jXZ (xs:List Arg) (k:Ct) (h:k46 xs=some k) (hp:k.pr):Tot T k 46 xs:=by
 unfold k46 at h
 split at h
 .rename_i ns n
  cases h;obtain⟨x,B,h2⟩:=jSs hp n;exact⟨x,B,Does.rvp (ns:=[n]) h2 rfl⟩
 .cases h
def ctN:Cts:=ctp 46 k46 ct0
theorem jOt:Good T ctN:=jKu jJV jXZ
def cK (ns:List (List C)) (n i:Int) (p:Prop):Ct:=mkc rI b0 (fun k _=>jKh ns n i k) p
theorem jXT {ns:List (List C)}(h:Ns ns) (n i:Int):Tot T (cK ns n i True) 98 [.pl (.ag [.r false 13 ns]),pI n,pI i]:=vF hN jOt Tryz.func98 (Ns ns/\∀(x:N × Unit),NdX ns n x.1->br (decide (i<0)) (true=true/\jKh ns n i ((-1))) (br (decide (i>=↑x.1.s.length)) (true=true/\jKh ns n i ((-1))) (0<=i/\(∃(y:Int),x.1.s[i.toNat]? =some [I y])/\∀(x_1:Int),x.1.s[i.toNat]? =some [I x_1]->br (decide (x_1>=n)) (jKh ns n i ((-1))) (0<=i/\(∃(y:Int),x.1.s[i.toNat]? =some [I y])/\∀(x_2:Int),x.1.s[i.toNat]? =some [I x_2]->jKh ns n i x_2)))) (by kernel_rfl) (by
 refine⟨h,fun⟨x,_⟩ ⟨e,hx⟩=>?_⟩
 dsimp only at e hx ⊢
 have z:¬(0<=i/\i<x.s.length/\jLs x.s i.toNat<n)->jKh ns n i (-1):=fun h=>⟨by unfold jnF;rw[e,if_neg h],by omega,by omega⟩
 refine⟨fun B=>⟨rfl,z (by have:=dt B;omega)⟩,fun B=>⟨fun h2=>⟨rfl,z (by have:=dt h2;omega)⟩,fun h2=>?_⟩⟩;have B:=df B;have h2:=df h2;have b:=hx.s.ati i (by omega) (by omega);refine⟨by omega,b,fun a ha=>⟨fun E=>z (by have:=dt E;rw[jL3 ha];omega),fun E=>⟨by omega,b,fun c hc=>⟨?_,hx.s.int hc⟩⟩⟩⟩;have E:=df E;have:=jL3 ha;have:=jL3 hc;unfold jnF;rw[e,if_pos ⟨by omega,by omega,by omega⟩]
 omega)
def k98 (xs:List Arg):Option Ct:=match xs with
 |[.rv [.r false 13 ns] false,.pl (.c (.i .i64 n)),.pl (.c (.i .i64 i))]=>some (cK ns n i (Ns ns))
 |_=>none
theorem jXX (xs:List Arg) (k:Ct) (h:k98 xs=some k) (hp:k.pr):Tot T k 98 xs:=by
 unfold k98 at h
 split at h
 .rename_i ns n i
  cases h;obtain⟨x,B,h2⟩:=jXT hp n i;exact⟨x,B,Does.rvp (ns:=[n,i]) h2 rfl⟩
 .cases h
def kS2 (c:S7->Int->Ct) (xs:List Arg):Option Ct:=match xs with
 |[.pl (.ag l),.pl (.c (.i .i64 n))]=>match fS.un l with
  |some s=>some (c s n)
  |none=>none
 |_=>none
theorem jOd {c:S7->Int->Ct}{f:Nat}(h:∀s n,(c s n).pr->Tot T (c s n) f [pS s,pI n]) (xs:List Arg) (k:Ct) (hk:kS2 c xs=some k) (hp:k.pr):Tot T k f xs:=by
 unfold kS2 at hk
 split at hk
 .split at hk
  .rename_i s hs
   cases hk;rw[fS.ok _ _ hs];exact h s _ hp
  .cases hk
 .cases hk
def jOe (xs:List Arg):Option Ct:=match xs with
 |[.pl (.ag l),.pl (.ag m)]=>match fS.un l,fS.un m with
  |some s,some t=>some cS
  |_,_=>none
 |_=>none
theorem jTa (xs:List Arg) (k:Ct) (hk:jOe xs=some k) (hp:k.pr):Tot T k 105 xs:=by
 unfold jOe at hk
 split at hk
 .split at hk
  .rename_i s t hs ht
   cases hk;rw[fS.ok _ _ hs,fS.ok _ _ ht];exact jX5 s t
  .cases hk
 .cases hk
def cBn (n:Int):Ct:=mkc rB b0 (fun _ _=>True) (inI n)
def cSn (n:Int):Ct:=mkc (rS fS) b0 (fun _ _=>True) (inI n)
def ctS:Cts:=ctp 98 k98 <|ctp 47 (kS2 fun _ n=>cBn n) <|ctp 106 (kS2 fun _ n=>cSn n) <|ctp 105 jOe ctN
theorem jTR:Good T ctS:=jKu (jKu (jKu (jKu jOt jTa) (jOd fun s n hp=>jRm s hp)) (jOd fun s n hp=>jTj s hp)) jXX
end V
end Go.Proofs.YtnhbcdnmfafbiaaGreatDoor
set_option maxRecDepth 100000
namespace Go.Proofs.YtnhbcdnmfafbiaaGreatDoor
namespace V
open Go.Proofs
def jJK:Pz (List C):=⟨List C,fun l=>l,some,fun _ _ e=>by cases e;rfl⟩
def rBx:Pz (List Arg):=⟨List C,fun l=>[.ow [.bx l] true],fun l=>match l with
 |[.ow [.bx l] true]=>some l
 |_=>none,fun b x e=>by split at e <;> cases e;rfl⟩
structure jNB where
 (a b:Int)
def fHm:Pz (List C):=⟨jNB,fun x=>[I x.a,I x.b],fun l=>match l with
 |[.i .i64 a,.i .i64 b]=>some ⟨a,b⟩
 |_=>none,fun b x e=>by split at e <;> cases e;rfl⟩
structure sm (n:Int):Prop where
 lo: -4000000000<=n
 hi:n<=4000000000
theorem sm.i {n:Int}(h:sm n):inI n:=⟨by have:=h.lo;omega,by have:=h.hi;omega⟩
def Ints (l:List C):Prop:=∀c ∈ l,∃x,c=I x/\sm x
structure jJL (fc:List C) (m:Nat):Prop where
 n:fc.length=802
 i:Ints fc
 t:∀y,fc[800]? =some (I y)->0<=y/\y<=m
 s:∀y,fc[801]? =some (I y)->0<=y/\y<=6000
theorem gts1 {cs:List C}{o:Nat}{c:C}(h:cs[o]? =some c):gts cs o 1=some [c]:=by
 have B:=(List.getElem?_eq_some_iff.1 h).1;simp only[gts,h];rw[if_pos (by omega)]
theorem jMG {cs:List C}{o:Nat}{c:C}(h:gts cs o 1=some [c]):cs[o]? =some c:=by
 simp only[gts]at h
 split at h
 .rename_i c' hc
  split at h
  .rename_i l hl
   split at hl
   .cases hl;cases h;exact hc
   .cases hl
  .cases h
 .cases h
theorem jJL.at {fc:List C}{m:Nat}(h:jJL fc m) {j:Nat}(B:j<802):∃x,fc[j]? =some (I x)/\sm x:=by
 have hl:j<fc.length:=by rw[h.n];exact B
 obtain⟨x,e,hx⟩:=h.i _ (List.getElem_mem hl);exact⟨x,by rw[List.getElem?_eq_getElem hl,e],hx⟩
theorem jJL.ask {fc:List C}{m:Nat}(h:jJL fc m) {j:Nat}(B:j<802):∃x:Int,gts fc j 1=some [I x]:=by
 obtain⟨x,e,_⟩:=h.at B;exact⟨x,gts1 e⟩
theorem Ints.set {l:List C}(h:Ints l) {j:Nat}{x:Int}(hx:sm x):Ints (l.set j (I x)):=fun c hc=>by
 rcases List.mem_or_eq_of_mem_set hc with q|q
 .exact h c q
 .exact⟨x,q,hx⟩
theorem jJL.up {fc:List C}{m m':Nat}(h:jJL fc m) (hm:m<=m'):jJL fc m':=⟨h.n,h.i,fun y hy=>by have:=h.t y hy;omega,h.s⟩
theorem jJL.set {fc:List C}{m m':Nat}(h:jJL fc m') {j:Nat}{x:Int}(hx:sm x) (hm:j=800\/m'<=m) (G:j=800->0<=x/\x<=m) (B:j=801->0<=x/\x<=6000):jJL (ovl fc j [I x]) m:=by
 show jJL (fc.set j (I x)) m
 have E:∀k (n:Nat),(j=k->0<=x/\x<=n)->(j≠k->∀y,fc[k]? =some (I y)->0<=y/\y<=n)->∀y,(fc.set j (I x))[k]? =some (I y)->0<=y/\y<=n:=fun k n hk hf y hy=>by
  rw[List.getElem?_set]at hy
  split at hy
  .rename_i e
   split at hy
   .injection hy with e';injection e' with _ e';rw[<-e'];exact hk e
   .cases hy
  .rename_i e;exact hf e y hy
 exact⟨by simp[h.n],h.i.set hx,E 800 m G fun hne y hy=>by have:=h.t y hy;rcases hm with q|q <;> omega,E 801 6000 B fun _=>h.s⟩
theorem ovl2 (fc:List C) (j:Nat) (a b:C):ovl fc j [a,b]=ovl (ovl fc j [a]) (j+1) [b]:=rfl
def hF:Hx:=⟨fun _=>eI,false,fun n=>cond (Nat.beq n 1) (some eI) (cond (Nat.beq n 2) (some (eS fHm)) none),true,false⟩
structure jMf (x:jNB):Prop where
 a:sm x.a
 b:sm x.b
structure jMc (fc:List C) (k:Int) (fc':List C):Prop where
 r:∀m:Nat,m<6000->jJL fc m->(0<=k/\k<=m)/\jJL fc' (m+1)
def jQZ:Pz (List (List C)):=bS jJK
def jT0 (fc:List C) (p:Prop):Ct:=mkc rI jQZ (fun k fc'=>jMc fc k fc') p
theorem gI {l:List C}{j:Nat}{a b:Int}(h:gts l j 1=some [I a]) (B:gts l j 1=some [I b]):a=b:=jUt h B
theorem jYu {l:List C}{j:Nat}(B:j<l.length) (c:C):gts (ovl l j [c]) j 1=some [c]:=gts1 (by show(l.set j c)[j]? =_;simp[B])
theorem jdV {fc:List C}{m:Nat}(h:jJL fc m) (hm:m<6000):Tot T (jT0 fc True) 92 [.bp fc]:=vF (⟨hF,[],[],[]⟩) jJV Tryz.func92 ((∃(y:Int),gts fc 800 1=some [I y])/\∀(x:Int),gts fc 800 1=some [I x]->(∃(y:Int),gts fc 800 1=some [I y])/\∀(x_1:Int),gts fc 800 1=some [I x_1]->801<=fc.length/\(∃(y:Int),gts (ovl fc 800 [I (wr (x_1+1))]) 800 1=some [I y])/\∀(x_2:Int),gts (ovl fc 800 [I (wr (x_1+1))]) 800 1=some [I x_2]->(∃(y:Int),gts (ovl fc 800 [I (wr (x_1+1))]) 801 1=some [I y])/\∀(x_3:Int),gts (ovl fc 800 [I (wr (x_1+1))]) 801 1=some [I x_3]->br (decide (x_2 >x_3)) ((∃(y:Int),gts (ovl fc 800 [I (wr (x_1+1))]) 800 1=some [I y])/\∀(x_4:Int),gts (ovl fc 800 [I (wr (x_1+1))]) 800 1=some [I x_4]->802<=(ovl fc 800 [I (wr (x_1+1))]).length/\jMc fc x (ovl (ovl fc 800 [I (wr (x_1+1))]) 801 [I x_4])) (jMc fc x (ovl fc 800 [I (wr (x_1+1))]))) (by kernel_rfl) (by
 refine⟨h.ask (by omega),fun x hx=>⟨h.ask (by omega),fun x1 hx1=>?_⟩⟩;have e:=gI hx hx1;subst e
 have B:∀m:Nat,m<6000->jJL fc m->(0<=x/\x<=m)/\wr (x+1)=x+1/\jJL (ovl fc 800 [I (wr (x+1))]) (m+1):=fun m hm h=>by
  have b:=h.t x (jMG hx);have e:wr (x+1)=x+1:=by unfold wr;rw[IntKind.wrap_i64];omega
  rw[e];exact⟨b,rfl,h.set ⟨by omega,by omega⟩ (.inl rfl) (fun _=>by omega) (by omega)⟩
 have E:=(B m hm h).2.2;have hl:800<fc.length:=by rw[h.n];omega
 refine⟨by omega,E.ask (by omega),fun x2 hx2=>⟨E.ask (by omega),fun x3 hx3=>⟨fun hb=>⟨E.ask (by omega),fun x4 hx4=>⟨by rw[E.n];omega,⟨fun m hm h=>?_⟩⟩⟩,fun hb=>⟨fun m hm h=>⟨(B m hm h).1,(B m hm h).2.2⟩⟩⟩⟩⟩;have k:=B m hm h;have G:x4=wr (x+1):=gI hx4 (jYu hl _)
 refine⟨k.1,k.2.2.set ⟨?_,?_⟩ (.inr (Nat.le_refl _)) (by omega) fun _=>?_⟩ <;> rw[G,k.2.1] <;> omega)
theorem jVu {fc:List C}{m:Nat}(h:jJL fc m) (b:Int) {s f:Int}(hs:sm s) (hf:sm f):Tot T (mkc r0 jQZ (fun _ fc'=>∀m,jJL fc m->jJL fc' m) True) 94 [.bp fc,pI b,pI s,pI f]:=vN (⟨hF,[],[],[]⟩) jJV Tryz.func94 (br (decide (b>=0)) (br (decide (b<400)) ((0<=b/\b<↑400)/\0+b.toNat*2+2<=fc.length/\∀(m:Nat),jJL fc m->jJL (ovl fc (0+b.toNat*2) (ovl (ovl [iz IntKind.i64,iz IntKind.i64] 0 [I s]) 1 [I f])) m) (∀(m:Nat),jJL fc m->jJL fc m)) (false=false/\∀(m:Nat),jJL fc m->jJL fc m)) (by kernel_rfl) (by
 refine⟨fun B=>⟨fun h2=>?_,fun _ m h=>h⟩,fun _=>⟨rfl,fun m h=>h⟩⟩;have B:=dt B;have h2:=dt h2;refine⟨⟨by omega,by omega⟩,by rw[h.n];omega,fun m h=>?_⟩;show jJL (ovl fc (0+b.toNat*2) [I s,I f]) m;rw[ovl2]
 exact(h.set hs (.inr (Nat.le_refl _)) (by omega) (by omega)).set hf (.inr (Nat.le_refl _)) (by omega) (by omega))
theorem jYh {fc:List C}{m:Nat}(h:jJL fc m) (b:Int):Tot T (mkc (rS fHm) b0 (fun x _=>jMf x) True) 221 [.br fc,pI b]:=vF (⟨hF,[],[],[]⟩) jJV Tryz.func221 (br (decide (b<0)) (true=true/\2<=2/\jMf {a:=(-1),b:=(-1)}) (br (decide (b>=400)) (2<=2/\jMf {a:=(-1),b:=(-1)}) ((0<=b/\b<↑400)/\(∃(y:jNB),gts fc (0+b.toNat*2) 2=some (fHm.f y))/\∀(x:jNB),gts fc (0+b.toNat*2) 2=some (fHm.f x)->2<=2/\jMf x))) (by kernel_rfl) (by
 have z:jMf ⟨-1,-1⟩:=⟨⟨by simp,by simp⟩,⟨by simp,by simp⟩⟩
 refine⟨fun _=>⟨rfl,by omega,z⟩,fun E=>⟨fun _=>⟨by omega,z⟩,fun h2=>?_⟩⟩;have E:=df E;have h2:=df h2;obtain⟨y,G,J⟩:=h.at (j:=0+b.toNat*2) (by omega);obtain⟨z,B,i2⟩:=h.at (j:=0+b.toNat*2+1) (by omega);have hl:=(List.getElem?_eq_some_iff.1 B).1
 have e:gts fc (0+b.toNat*2) 2=some (fHm.f ⟨y,z⟩):=by
  simp only[gts,G,B];rw[if_pos (by omega)];rfl
 refine⟨⟨by omega,by omega⟩,⟨_,e⟩,fun x hx=>⟨by omega,?_⟩⟩;rw[e]at hx;obtain⟨a,b⟩:=x;have hx:some [C.i .i64 y,C.i .i64 z]=some [C.i .i64 a,C.i .i64 b]:=hx;simp only[Option.some.injEq,List.cons.injEq,C.i.injEq,true_and,and_true]at hx
 exact⟨hx.1 ▸ J,hx.2 ▸ i2⟩)
end V
end Go.Proofs.YtnhbcdnmfafbiaaGreatDoor
set_option maxRecDepth 100000
namespace Go.Proofs.YtnhbcdnmfafbiaaGreatDoor
namespace V
open Go.Proofs
structure RdI (fc fc':List C) (i:Int):Prop where
 e:fc'=fc
 i:Ix 400 i
def rdT:Rl Av:=.cons 0 (tA 0) <| .cons 2 tI <| .cons 4 (tA 4) <| .cons 6 tB <| .cons 7 tI .nil
def rdR:Rl Rt:=.cons 0 (rX 3 jJK) <| .cons 4 (rX 1 fS) .nil
def rdH (fc:List C):Hy:=⟨hF,[],[],[(2,.iv rdT rdR (fun a=>RdI fc a.2.1 a.1.2.2.2.2.1) fun a=>ixM 400 a.1.2.2.2.2.1)]⟩
theorem jV9 {fc:List C}{m:Nat}(h:jJL fc m) (s:S7) (k:Int):Tot T cB 220 [.br fc,pS s,pI k]:=vF (rdH fc) jTR Tryz.func220 (RdI fc fc 0/\∀(a:(Unit × Int × Unit × Bool × Int × Unit) × List C × S7 × Unit),RdI fc a.2.1 a.1.2.2.2.2.1->br (decide (a.1.2.2.2.2.1<400)) ((0<=a.1.2.2.2.2.1/\a.1.2.2.2.2.1<↑400)/\(∃(y:Int),gts (jJK.f a.2.1) (0+Int.toNat a.1.2.2.2.2.1*2+0) 1=some [I y])/\∀(x:Int),gts (jJK.f a.2.1) (0+Int.toNat a.1.2.2.2.2.1*2+0) 1=some [I x]->br (decide (x=a.1.2.1)) (inI a.1.2.2.2.2.1/\∀(x:Bool × Unit),True->br x.1 True (RdI fc (jJK.f a.2.1) (wr (a.1.2.2.2.2.1+1))/\ixM 400 (wr (a.1.2.2.2.2.1+1))<ixM 400 a.1.2.2.2.2.1)) (false=false/\RdI fc (jJK.f a.2.1) (wr (a.1.2.2.2.2.1+1))/\ixM 400 (wr (a.1.2.2.2.2.1+1))<ixM 400 a.1.2.2.2.2.1)) True) (by kernel_rfl) (by
 refine⟨⟨rfl,by omega,by omega⟩,fun a=>?_⟩;obtain⟨⟨_,k',_,b,i,_⟩,B,G,_⟩:=a;rintro ⟨e,hi⟩
 dsimp only at e hi ⊢
 subst e;refine⟨fun hb=>?_,fun _=>trivial⟩;have nx:=hi.nx (by omega) hb
 have n2:RdI B B (wr (i+1))/\ixM 400 (wr (i+1))<ixM 400 i:=⟨⟨rfl,nx.1⟩,nx.2⟩
 have h0:=hi.lo;have E:=dt hb
 exact⟨⟨by omega,by omega⟩,h.ask (by omega),fun x hx=>⟨fun _=>⟨⟨by omega,by omega⟩,fun _ _=>⟨fun _=>trivial,fun _=>n2⟩⟩,fun _=>⟨rfl,n2⟩⟩⟩)
structure NfI (fc:List C) (i:Int):Prop where
 f:jJL fc 0
 i:Ix 400 i
def nfT:Rl Av:=.cons 1 (tA 4) <| .cons 2 tI .nil
def nfR:Rl Rt:=.cons 4 (rX 1 jJK) .nil
def nfH:Hy:=⟨hF,[],[],[(3,.iv nfT nfR (fun a=>NfI a.2.1 a.1.2.1) fun a=>ixM 400 a.1.2.1)]⟩
theorem jWT:Tot T (mkc rBx b0 (fun fc _=>jJL fc 0) True) 45 []:=vR nfH jJV [] [true] Tryz.func45 (NfI (List.replicate 802 (I 0)) 0/\∀(a:(Unit × Int × Unit) × List C × Unit),NfI a.2.1 a.1.2.1->br (decide (a.1.2.1<400)) ((0<=a.1.2.1/\a.1.2.1<↑400)/\0+Int.toNat a.1.2.1*2+2<=(jJK.f a.2.1).length/\NfI (ovl (jJK.f a.2.1) (0+Int.toNat a.1.2.1*2) (ovl (ovl [iz IntKind.i64,iz IntKind.i64] 0 [I ((-1))]) 1 [I ((-1))])) (wr (a.1.2.1+1))/\ixM 400 (wr (a.1.2.1+1))<ixM 400 a.1.2.1) (jJL (jJK.f a.2.1) 0)) (by kernel_rfl) (by
 refine⟨⟨?_,by omega,by omega⟩,fun a=>?_⟩
 .have key:∀(n:Nat) k y,(List.replicate 802 (I 0))[k]? =some (I y)->0<=y/\y<=n:=fun n k y hy=>by
   rw[List.getElem?_replicate]at hy
   split at hy
   .injection hy with e;injection e with _ e;omega
   .cases hy
  exact⟨by simp,fun c hc=>⟨0,List.eq_of_mem_replicate hc,by omega,by omega⟩,key 0 800,key 6000 801⟩
 obtain⟨⟨_,i,_⟩,fc,_⟩:=a;rintro ⟨hf,hi⟩
 dsimp only at hf hi ⊢
 refine⟨fun hb=>?_,fun _=>hf⟩;have nx:=hi.nx (by omega) hb;have h0:=hi.lo;have B:=dt hb;refine⟨⟨by omega,by omega⟩,by show _<=List.length fc;rw[hf.n];omega,⟨?_,nx.1⟩,nx.2⟩;show jJL (ovl fc (0+i.toNat*2) [I (-1),I (-1)]) 0;rw[ovl2]
 exact(hf.set ⟨by omega,by omega⟩ (.inr (Nat.le_refl _)) (by omega) (by omega)).set ⟨by omega,by omega⟩ (.inr (Nat.le_refl _)) (by omega) (by omega))
end V
end Go.Proofs.YtnhbcdnmfafbiaaGreatDoor
