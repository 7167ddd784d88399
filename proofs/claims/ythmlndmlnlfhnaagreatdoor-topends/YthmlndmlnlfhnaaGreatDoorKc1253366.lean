import Derived.Test.YthmlndmlnlfhnaaGreatDoorProg
import Derived.WalkLawsBesides
import Derived.BigQuiet
import Derived.Deep.QuietTactic
import Derived.StillTailTactics
import Derived.Test.YthmlndmlnlfhnaaGreatDoorK4f94c9e3
set_option maxRecDepth 100000
set_option maxHeartbeats 16000000
namespace Go.Proofs.YthmlndmlnlfhnaaGreatDoor
open Go.RowKit
theorem jg1:(Tryz.prog.info? 87).map (fun i=>(i.zero,i.size,i.bytes))=some (some (.agg #[.int .i64 0,.int .i64 0]),2,16):=by kernel_rfl
theorem jmb (a b:Int) (w:World) :
  Calls Tryz.prog 210 #[.agg #[.int .i64 a,.int .i64 b]] w fun e w'=>e = .returned (.bool (decide (b<a)))∧Below w.heap.size w w':=by
 go_enter Tryz.func210,Tryz.ntmps210
 go_wp2
 go_ret
 exact ⟨rfl,(Below.refl _ _).alloc (Nat.le_refl _) _⟩
theorem jca (l:List (Int × Int)) (v:Value) (n:Int) (w:World) (h:Sl Enc.rng w (Old w) l v) :
  Calls Tryz.prog 136 #[v,.int .i64 n] w fun e w'=>e = .returned (.bool (hasB l n))∧Below w.heap.size w w':=by
 have H:=Lib.hid h
 obtain ⟨A,c,rfl,hc1,hc2,-⟩:=h
 unfold maxLen at hc2
 go_enter Tryz.func136,Tryz.ntmps136
 go_wp2
 go_loopw [9] (fun i wr=>∃ k:Nat,k≤l.length∧i = .int .i64 k∧Hid (hasB (l.take k) n=false)∧Below w.heap.size w wr) (fun i _=>l.length-(intOf i).toNat)
 case atStart=>exact ⟨0,Nat.zero_le _,rfl,rfl,Below.refl _ _⟩
 case round =>
  obtain ⟨k,hk,rfl,hf,hb⟩:=hrel
  have hsz:=hb.size
  by_cases hlt:k<l.length
  ·obtain ⟨b,o,x,y,rfl,_,hx,h1,h2⟩:=(H.out.below (fun _ h=>h) hb).rng_at hlt
   go_wp2
   ·go_ret
    exact ⟨jad (yoh hx.out n ‹_› ‹_›).symm,hb.alloc hsz _⟩
   all_goals
    refine ⟨⟨k+1,by omega,by go_num,?_,hb.alloc hsz _⟩,by simp [intOf];omega⟩
    show hasB _ n=false
    rw [jp9 l hx.out,hf.out];simp;omega
  ·go_wp2
   go_ret
   have hf':=hf.out
   rw [List.take_of_length_le (by omega)] at hf'
   exact ⟨jad hf'.symm,hb⟩
theorem jbp (l:List (Int × Int)) (v:Value) (w:World) (h:Sl Enc.rng w (Old w) l v) :
  Calls Tryz.prog 191 #[v] w fun e w'=>e = .returned (.bool (jbv l))∧Below w.heap.size w w':=by
 have H:=Lib.hid h
 obtain ⟨A,c,rfl,hc1,hc2,-⟩:=h
 unfold maxLen at hc2
 go_enter Tryz.func191,Tryz.ntmps191
 go_wp2
 go_loopw [7] (fun i wr=>∃ k:Nat,k≤l.length∧i = .int .i64 k∧(Hid (jbv l=jbn (jpb l k) (l.drop k))) ∧ -1000002≤jpb l k∧jpb l k≤1000000∧Below w.heap.size w wr) (fun i _=>l.length-(intOf i).toNat)
 case atStart=>exact ⟨0,Nat.zero_le _,rfl,rfl,by simp [jpb],by simp [jpb],Below.refl _ _⟩
 case round =>
  obtain ⟨k,hk,rfl,hf,hl1,hl2,hb⟩:=hrel
  have hsz:=hb.size
  by_cases hlt:k<l.length
  ·obtain ⟨b,o,x,y,rfl,_,hx,h1,h2⟩:=(H.out.below (fun _ h=>h) hb).rng_at hlt
   by_cases hin:-1000000≤x∧y≤1000000∧x≤y
   ·obtain ⟨i1,i2,i3⟩:=hin
    by_cases h0:0<k
    ·go_wp2_with (go_at_call 210;refine (jmb _ _ _).mono ?_;rintro e w' ⟨rfl,hb'⟩)
     have hb2:Below w.heap.size w w':=jbh (hb.alloc hsz _) (by simp;omega) hb'
     have q0:w'.cell? ⟨wr.heap.size,0,none⟩=some (.int .i64 x):=(hb'.cell (p:=⟨wr.heap.size,0,none⟩) (by simp)).trans (by simp)
     obtain ⟨b2,o2,x2,y2,e,_,hx2,_,p2⟩:=(H.out.below (fun _ h=>h) hb2).rng_at (k:=k-1) (by omega)
     obtain ⟨rfl,rfl⟩:=jc5 e
     have HP:=Lib.hid (ydx h0 hx2.out)
     have hp1:-1000002≤y2:=by rw [← HP.out];exact hl1
     have hp2:y2≤1000000:=by rw [← HP.out];exact hl2
     clear hl1 hl2 hb' hb h1 h2 e
     have w1:IntKind.i64.wrap ((k:Int)-1)=(k:Int)-1:=IntWalk.i64_in _ (by omega)
     have w2:IntKind.i64.wrap (y2+1)=y2+1:=IntWalk.i64_in _ (by omega)
     have w3:0≤(k:Int)-1:=by omega
     have w4:((k:Int)-1).toNat=k-1:=by omega
     have w5:(k:Int)-1<l.length:=by omega
     go_quiet (fail)
     clear w1 w2 w4
     go_wp2
     ·go_ret
      exact ⟨jad (by rw [hf.out,jes hx.out,HP.out];simp;omega),below_drewN hb2 _⟩
     ·refine ⟨⟨k+1,by omega,by go_num,?_,?_,?_,below_drewN hb2 _⟩,by simp [intOf];omega⟩
      ·show jbv l=_
       rw [hf.out,jes hx.out,jg8 hx.out,HP.out];simp;omega
      ·rw [jg8 hx.out];omega
      ·rw [jg8 hx.out];omega
    ·go_wp2_with (go_at_call 210;refine (jmb _ _ _).mono ?_;rintro e w' ⟨rfl,hb'⟩)
     have hb2:Below w.heap.size w w':=jbh (hb.alloc hsz _) (by simp;omega) hb'
     have hd:decide (0<k)=false:=by simpa using h0
     have HP:Hid (jpb l k = -1000002):=by simp [jpb,show k=0 from by omega,Hid]
     go_quiet (fail)
     go_wp2
     refine ⟨⟨k+1,by omega,by go_num,?_,?_,?_,below_drewN hb2 _⟩,by simp [intOf];omega⟩
     ·show jbv l=_
      rw [hf.out,jes hx.out,jg8 hx.out,HP.out];simp;omega
     ·rw [jg8 hx.out];omega
     ·rw [jg8 hx.out];omega
   ·go_wp2_with (go_at_call 210;refine (jmb _ _ _).mono ?_;rintro e w' ⟨rfl,hb'⟩)
    all_goals go_ret
    ·exact ⟨jad (by rw [hf.out,jes hx.out];simp;omega),jbh (hb.alloc hsz _) (by simp;omega) hb'⟩
    ·exact ⟨jad (by rw [hf.out,jes hx.out];simp;omega),hb.alloc hsz _⟩
    ·exact ⟨jad (by rw [hf.out,jes hx.out];simp;omega),hb.alloc hsz _⟩
  ·go_wp2
   go_ret
   have hf':=hf.out
   rw [List.drop_of_length_le (by omega)] at hf'
   exact ⟨jad hf'.symm,hb⟩
open Go.RowKit
theorem jfz:Tryz.prog.underlying 83=some (.slice 87):=by kernel_rfl
def jcn (base:Nat) (v:Value) (l:List (Int × Int)) (w:World) (e:Ending) (w':World):Prop :=
 ∃ v',e = .returned v'∧OwnR w' base 87 v' l∧w.grownBy w' v.ownBlock∧jed w v v'
theorem jqv (base:Nat) (v:Value) (l:List (Int × Int)) (x y:Int) (w:World) (h:OwnR w base 87 v l) (hbase:base≤w.heap.size) (hl:(l.length+1)*16≤140737488355328) :
  Calls Tryz.prog 216 #[v,.agg #[.int .i64 x,.int .i64 y]] w (jcn base v (l ++ addL x y) w):=by
 have H:=Lib.hid h
 by_cases hxy:y<x
 ·have ea:Hid (addL x y = []):=by simp [addL,hxy,Hid]
  go_enter Tryz.func216,Tryz.ntmps216
  go_wp2_with (go_at_call 210;refine (jmb _ _ _).mono ?_;rintro e w' ⟨rfl,hb'⟩)
  go_ret
  have hb2:Below w.heap.size w w':=jbh ((Below.refl _ _).alloc (Nat.le_refl _) _) (by simp) hb'
  exact ⟨v,rfl,by rw [ea.out,List.append_nil];exact H.out.below hb2 (Nat.le_refl _),jbb hb2,jed.refl _ _⟩
 ·have ea:Hid (addL x y = [(x,y)]):=by simp [addL,hxy,Hid]
  go_enter Tryz.func216,Tryz.ntmps216
  go_wp2_with fail
  refine (jmb _ _ _).mono ?_
  rintro e w' ⟨rfl,hb'⟩
  have q0:w'.cell? ⟨w.heap.size,0,none⟩=some (.int .i64 x):=(hb'.cell (p:=⟨w.heap.size,0,none⟩) (by simp)).trans (by simp)
  have q1:w'.cell? ⟨w.heap.size,1,none⟩=some (.int .i64 y):=(hb'.cell (p:=⟨w.heap.size,1,none⟩) (by simp)).trans (by simp)
  have hb2:Below w.heap.size w w':=jbh ((Below.refl _ _).alloc (Nat.le_refl _) _) (by simp) hb'
  have hsz:=hb2.size
  have ho:Hid (w'.ownsRow base 87 2 v l.length (jee l)):=H.out.below hb2 (Nat.le_refl _)
  clear h
  go_wp2_with (at_builtin;refine jie _ rfl _ _ 83 rfl base 87 2 16 (.agg #[.int .i64 0,.int .i64 0]) jfz jg1 rfl (by decide) _ _ _ rfl (ho.out.alloc _) ⟨w'.heap.size,0,none⟩ 1 1 [.int .i64 x,.int .i64 y] rfl rfl (cell_two_new _ _ _ _) (fun x hx=>by simp at hx;rcases hx with rfl | rfl <;> rfl) (by unfold maxLen;omega) (by omega) (by simp;omega) (by decide) ?_;intro v' w3 hown' hgrow3 hmv)
  go_ret
  refine ⟨v',rfl,?_,?_,hmv.later (by simp;omega)⟩
  ·rw [ea.out]
   unfold OwnR
   rw [jfa,List.length_append]
   exact hown'
  ·exact World.grownBy.trans' (jbb (hb2.alloc hsz _)) hgrow3
theorem jcn.mk {w w':World} {v':Value} {l:List (Int × Int)} (ho:OwnR w' w.heap.size 87 v' l) (hb:Below w.heap.size w w'):jcn w.heap.size (.slice none 0 0) l w (.returned v') w' :=
 ⟨v',rfl,ho,jbb hb,fun _ hg=>.inr (ho.lt _ hg).1⟩
open Go.RowKit
theorem yci (l:List (Int × Int)) (v:Value) (w:World) (h:Sl Enc.rng w (Old w) l v) (hl:l.length*16≤140737488355328) :
  Calls Tryz.prog 212 #[v] w (jcn w.heap.size (.slice none 0 0) (jkx l) w):=by
 have H:=Lib.hid h
 obtain ⟨A,c,rfl,hc1,hc2,-⟩:=h
 unfold maxLen at hc2
 go_enter Tryz.func212,Tryz.ntmps212
 go_wp2
 go_loopw [3,8] (fun u i wr=>∃ k:Nat,k≤l.length∧i = .int .i64 k∧OwnR wr w.heap.size 87 u (jkx (l.take k))∧Below w.heap.size w wr) (fun _ i _=>l.length-(intOf i).toNat)
 case atStart=>exact ⟨0,Nat.zero_le _,rfl,OwnR.nil,Below.refl _ _⟩
 case round =>
  obtain ⟨k,hk,rfl,hown,hb⟩:=hrel
  have hsz:=hb.size
  have hcl:=jrf l k
  by_cases hlt:k<l.length
  ·obtain ⟨b,o,x,y,rfl,_,hx,h1,h2⟩:=(H.out.below (fun _ h=>h) hb).rng_at hlt
   go_wp2_with fail
   all_goals
    refine (jqv w.heap.size _ (jkx (l.take k)) _ _ _ (hown.alloc _) (by simp;omega) (by omega)).mono ?_
    rintro e w' ⟨v',rfl,ho,hg,_⟩
    rw [jra (x':=max x (-1000000)) (y':=min y 1000000) (by omega) (by omega),← yn0 hx.out] at ho
    have hb2:Below w.heap.size w w':=(hb.alloc hsz _).grown hg (by simp;omega) (fun _ hr=>(hown.lt _ hr).1)
    go_wp2
    exact ⟨⟨k+1,by omega,by go_num,ho,hb2⟩,by simp [intOf];omega⟩
  ·go_wp2
   go_ret
   rw [List.take_of_length_le (by omega)] at hown
   exact jcn.mk hown hb
open Go.RowKit
theorem OwnR.form' {w:World} {base e:Nat} {v:Value} {l:List (Int × Int)} (h:OwnR w base e v l):∃ A c,v = .slice A l.length c∧l.length≤c∧c≤maxLen:=by
 rcases h.form with ⟨rfl,rfl⟩ | ⟨g,c,rfl,_,_,h4,h5⟩
 ·exact ⟨none,0,rfl,Nat.le_refl _,by unfold maxLen;omega⟩
 ·exact ⟨_,c,rfl,h4,h5⟩
theorem jii (w:World) (g:Nat) (hg:g=w.heap.size) (a b:Value) (t:TypeId):∀ j u,[a,b][j]? = some u→(w.alloc (.cells #[a,b] t)).cell? ((⟨g,0,none⟩:Addr).add j)=some u:=by
 subst hg;exact cell_two_new _ _ _ _
theorem yih (l:List (Int × Int)) (v:Value) (w:World) (h:Sl Enc.rng w (Old w) l v) (hl:l.length*16≤140737488355328) (hin:hiIn l) :
  Calls Tryz.prog 215 #[v] w (jcn w.heap.size (.slice none 0 0) (jjb l) w):=by
 have H:=Lib.hid h
 have HI:=Lib.hid hin
 clear hin
 obtain ⟨A,c,rfl,hc1,hc2,-⟩:=h
 unfold maxLen at hc2
 go_enter Tryz.func215,Tryz.ntmps215
 go_wp2
 go_loopw [3,9] (fun u i wr=>∃ k:Nat,k≤l.length∧i = .int .i64 k∧OwnR wr w.heap.size 87 u (jjb (l.take k))∧Below w.heap.size w wr) (fun _ i _=>l.length-(intOf i).toNat)
 case atStart=>exact ⟨0,Nat.zero_le _,rfl,OwnR.nil,Below.refl _ _⟩
 case round =>
  obtain ⟨k,hk,rfl,hown,hb⟩:=hrel
  have hsz:=hb.size
  by_cases hlt:k<l.length
  ·obtain ⟨b,o,x,y,rfl,_,hx,h1,h2⟩:=(H.out.below (fun _ h=>h) hb).rng_at hlt
   have hcl:=jqc l k
   have hM:=Lib.hid (yk6 hx.out)
   have hB:=Lib.hid (jy1 HI.out k)
   have hy:=ykj HI.out hx.out
   obtain ⟨hy1,hy2⟩:=hy
   generalize jjb (l.take k)=O at *
   obtain ⟨Au,cu,rfl,hu1,hu2⟩:=hown.form'
   have HO:=Lib.hid hown
   clear hown
   unfold maxLen at hu2
   by_cases h0:0<O.length
   ·obtain ⟨g,rfl,hg1,hg2⟩:∃ g,Au=some ⟨g,0,none⟩∧w.heap.size≤g∧g<wr.heap.size:=by
     rcases HO.out.form with ⟨_,e⟩ | ⟨g,c',e,e2,e3,_⟩
     ·subst e;simp at h0
     ·injection e with e1;exact ⟨g,e1,e2,e3⟩
    obtain ⟨g',o',p,q,e,_,hq,c1,c2⟩:=(HO.out.sl).rng_at (k:=O.length-1) (by omega)
    obtain ⟨rfl,rfl⟩:=jc5 e
    obtain ⟨hq1,hq2⟩:=ykj hB.out hq.out
    have c1':wr.cell? ⟨g,(O.length-1)*2,none⟩=some (.int .i64 p):=by simpa using c1
    have c2':wr.cell? ⟨g,(O.length-1)*2+1,none⟩=some (.int .i64 q):=by simpa using c2
    clear c1 c2 e
    by_cases hm:x≤q+1
    ·have hd1:decide (x≤q+1)=true:=decide_eq_true hm
     have w1:IntKind.i64.wrap ((O.length:Int)-1)=(O.length:Int)-1:=IntWalk.i64_in _ (by omega)
     have w2:IntKind.i64.wrap (q+1)=q+1:=IntWalk.i64_in _ (by omega)
     have w3:0≤(O.length:Int)-1:=by omega
     have w4:((O.length:Int)-1).toNat=O.length-1:=by omega
     have w5:(O.length:Int)-1<O.length:=by omega
     have w6:(1:Int)≤O.length:=by omega
     have w7:1≤O.length:=by omega
     have fz:wr.frozen? ⟨g,(O.length-1)*2+1,none⟩=false:=World.ownsRow.frozenAt HO.out _
     go_wp2_with fail
     go_quiet (fail)
     clear w2
     go_wp2_with fail
     go_region
     clear w1 w4
     go_wp2
     have ho2:OwnR ((wr.alloc (Obj.cells #[Value.int IntKind.i64 x,Value.int IntKind.i64 y] 87)).drewN (nq+1)) w.heap.size 87 (.slice (some ⟨g,0,none⟩) O.length cu) O:=HO.out.alloc _
     have hs:=World.ownsRow.stored ho2 ((O.length-1)*2+1) (.int .i64 (if q<y then y else q))
     rw [jre O (O.length-1) (p,q) hq.out] at hs
     refine ⟨⟨k+1,by omega,by go_num,?_,?_⟩,by simp [intOf];omega⟩
     ·rw [hM.out,ybt hq.out hm,show max q (x,y).2=(if q<y then y else q) from by simp only [Int.max_def];split <;> split <;> omega]
      unfold OwnR
      rw [List.length_set]
      exact hs.1
     ·exact (below_drewN (hb.alloc hsz _) (nq+1)).grown hs.2 (by simp;omega) (fun _ hr=>by injection hr with hr;omega)
    ·have hd1:decide (x≤q+1)=false:=decide_eq_false hm
     have w1:IntKind.i64.wrap ((O.length:Int)-1)=(O.length:Int)-1:=IntWalk.i64_in _ (by omega)
     have w2:IntKind.i64.wrap (q+1)=q+1:=IntWalk.i64_in _ (by omega)
     have w3:0≤(O.length:Int)-1:=by omega
     have w4:((O.length:Int)-1).toNat=O.length-1:=by omega
     have w5:(O.length:Int)-1<O.length:=by omega
     have w6:(1:Int)≤O.length:=by omega
     have w7:1≤O.length:=by omega
     go_wp2_with fail
     go_quiet (fail)
     clear w1 w2 w4
     obtain ⟨i0,hi,hz0,hz1,hz2⟩:=info_parts jg1
     go_wp2_with (at_builtin;refine wpList_append_own _ rfl _ _ 83 rfl w.heap.size 87 i0 (.agg #[.int .i64 0,.int .i64 0]) 2 16 jfz hi hz0 hz1 hz2 rfl (by decide) _ _ _ rfl (by exact World.ownsRow.alloc (World.ownsRow.alloc HO.out _) _) ⟨wr.heap.size+1,0,none⟩ 1 1 [.int .i64 x,.int .i64 y] rfl rfl (jii _ _ (by simp) _ _ _) (fun x hx=>by simp at hx;rcases hx with rfl | rfl <;> rfl) (by unfold maxLen;omega) (by omega) (by simp;omega) ?_;intro v' w3 hown' hgrow3 hnil3)
     refine ⟨⟨k+1,by omega,by go_num,?_,?_⟩,by simp [intOf];omega⟩
     ·rw [hM.out,jy4 hq.out (by omega)]
      unfold OwnR
      rw [jfa,List.length_append]
      exact hown'
     ·exact (below_drewN (hb.alloc hsz _) nq |>.alloc (by simp;omega) _).grown hgrow3 (by simp;omega) (fun _ hr=>(HO.out.lt _ hr).1)
   ·have HE:=Lib.hid (show O.length=0 from by omega)
    have hd1:decide ((0:Int)≤(O.length:Int)-1)=false:=decide_eq_false (by omega)
    have hd2:decide ((1:Int)≤(O.length:Int))=false:=decide_eq_false (by omega)
    have hd3:decide (1≤O.length)=false:=decide_eq_false (by omega)
    have hd4:decide (0<O.length)=false:=decide_eq_false (by omega)
    go_wp2_with fail
    go_quiet (fail)
    obtain ⟨i0,hi,hz0,hz1,hz2⟩:=info_parts jg1
    go_wp2_with (at_builtin;refine wpList_append_own _ rfl _ _ 83 rfl w.heap.size 87 i0 (.agg #[.int .i64 0,.int .i64 0]) 2 16 jfz hi hz0 hz1 hz2 rfl (by decide) _ _ _ rfl (by exact World.ownsRow.alloc (World.ownsRow.alloc HO.out _) _) ⟨wr.heap.size+1,0,none⟩ 1 1 [.int .i64 x,.int .i64 y] rfl rfl (jii _ _ (by simp) _ _ _) (fun x hx=>by simp at hx;rcases hx with rfl | rfl <;> rfl) (by unfold maxLen;omega) (by omega) (by simp;omega) ?_;intro v' w3 hown' hgrow3 hnil3)
    refine ⟨⟨k+1,by omega,by go_num,?_,?_⟩,by simp [intOf];omega⟩
    ·rw [hM.out,jvz HE.out]
     unfold OwnR
     rw [jfa,List.length_append]
     exact hown'
    ·exact (below_drewN (hb.alloc hsz _) nq |>.alloc (by simp;omega) _).grown hgrow3 (by simp;omega) (fun _ hr=>(HO.out.lt _ hr).1)
  ·go_wp2
   go_ret
   rw [List.take_of_length_le (by omega)] at hown
   exact jcn.mk hown hb
open Go.RowKit
theorem jge (a b:List (Int × Int)) (va vb:Value) (w:World) (ha:Sl Enc.rng w (Old w) a va) (hb:Sl Enc.rng w (Old w) b vb) (hl:(a.length+b.length)*16≤140737488355328) :
  Calls Tryz.prog 195 #[va,vb] w (jcn w.heap.size (.slice none 0 0) (jbq a b) w):=by
 have HA:=Lib.hid ha
 have HB:=Lib.hid hb
 obtain ⟨A,c,rfl,hc1,hc2,-⟩:=ha
 obtain ⟨B,d,rfl,hd1,hd2,-⟩:=hb
 unfold maxLen at hc2 hd2
 go_enter Tryz.func195,Tryz.ntmps195
 go_wp2
 go_loopw [5,6,7] (fun u i j wr=>∃ (k m:Nat) (O:List (Int × Int)),k≤a.length∧m≤b.length∧i = .int .i64 k∧j = .int .i64 m∧Hid (jbq a b=O ++ jbq (a.drop k) (b.drop m))∧O.length≤k+m∧OwnR wr w.heap.size 87 u O∧Below w.heap.size w wr) (fun _ i j _=>(a.length-(intOf i).toNat)+(b.length-(intOf j).toNat))
 case atStart=>exact ⟨0,0,[],Nat.zero_le _,Nat.zero_le _,rfl,rfl,rfl,Nat.zero_le _,OwnR.nil,Below.refl _ _⟩
 case round =>
  obtain ⟨k,m,O,hk,hm,rfl,rfl,hF,hO,hown,hbl⟩:=hrel
  have hsz:=hbl.size
  by_cases hlt:k<a.length∧m<b.length
  ·obtain ⟨hka,hmb⟩:=hlt
   obtain ⟨ba,oa,x,y,rfl,hba,hx,a1,a2⟩:=(HA.out.below (fun _ h=>h) hbl).rng_at hka
   obtain ⟨bb,ob,p,q,rfl,hbb,hq,b1,b2⟩:=(HB.out.below (fun _ h=>h) hbl).rng_at hmb
   go_wp2_with fail
   go_still_tail 24,(by kernel_rfl)
   go_wp2_with fail
   all_goals
    refine (jqv w.heap.size _ O _ _ _ (by exact hown) (by exact hsz) (by omega)).mono ?_
    rintro e w' ⟨v',rfl,ho,hg,_⟩
    rw [jra (x':=max x p) (y':=min y q) (by omega) (by omega)] at ho
    have hb3:Below w.heap.size wr w':=(Below.refl _ _).drew.grown hg (by exact hsz) (fun _ hr=>(hown.lt _ hr).1)
    have hb2:Below w.heap.size w w':=hbl.trans hb3
    have a2':=(hb3.cell (p:=⟨ba,oa+k*2+1,none⟩) hba).trans a2
    have b2':=(hb3.cell (p:=⟨bb,ob+m*2+1,none⟩) hbb).trans b2
    have HL:=Lib.hid (jj7 (max x p) (min y q))
    have HO:=Lib.hid ho
    have HX:=Lib.hid (ynu hx.out hq.out)
    clear ho hown hg a1 a2 b1 b2
    by_cases hyq:y<q
    ·go_wp2_with fail
     go_quiet (fail)
     go_wp2
     refine ⟨⟨k+1,m,_,by omega,by omega,by go_num,rfl,?_,?_,HO.out,below_drewN hb2 _⟩,by simp [intOf];omega⟩
     ·show jbq a b=_
      rw [hF.out,HX.out,if_pos hyq,List.append_assoc]
     ·have:=HL.out
      rw [List.length_append];omega
    ·go_wp2_with fail
     go_quiet (fail)
     go_wp2
     refine ⟨⟨k,m+1,_,by omega,by omega,rfl,by go_num,?_,?_,HO.out,below_drewN hb2 _⟩,by simp [intOf];omega⟩
     ·show jbq a b=_
      rw [hF.out,HX.out,if_neg (show ¬ y<q from by omega),List.append_assoc]
     ·have:=HL.out
      rw [List.length_append];omega
  ·have HD:=Lib.hid (ygj (a:=a) (b:=b) (i:=k) (j:=m) (by omega))
   by_cases hka:k<a.length
   ·have hmb:¬ m<b.length:=by omega
    go_wp2
    go_ret
    exact jcn.mk (by rw [hF.out,HD.out,List.append_nil];exact hown) hbl
   ·go_wp2
    go_ret
    exact jcn.mk (by rw [hF.out,HD.out,List.append_nil];exact hown) hbl
open Go.RowKit
theorem jks (a b:List (Int × Int)) (va vb:Value) (w:World) (ha:Sl Enc.rng w (Old w) a va) (hb:Sl Enc.rng w (Old w) b vb) (hl:(a.length+b.length)*16≤140737488355328) (hin:yqx b) :
  Calls Tryz.prog 194 #[va,vb] w (jcn w.heap.size (.slice none 0 0) (jbo a b) w):=by
 have HA:=Lib.hid ha
 have HB:=Lib.hid hb
 have HI:=Lib.hid hin
 clear hin
 obtain ⟨A,c,rfl,hc1,hc2,-⟩:=ha
 obtain ⟨B,d,rfl,hd1,hd2,-⟩:=hb
 unfold maxLen at hc2 hd2
 go_enter Tryz.func194,Tryz.ntmps194
 go_wp2
 go_loopw [5,6,11] (fun u j i wr=>∃ (k m:Nat) (O:List (Int × Int)),k≤a.length∧m≤b.length∧i = .int .i64 k∧j = .int .i64 m∧Hid (jbo a b=O ++ jbo (a.drop k) (b.drop m))∧O.length≤k+m∧OwnR wr w.heap.size 87 u O∧Below w.heap.size w wr) (fun _ _ i _=>a.length-(intOf i).toNat)
 case atStart=>exact ⟨0,0,[],Nat.zero_le _,Nat.zero_le _,rfl,rfl,rfl,Nat.zero_le _,OwnR.nil,Below.refl _ _⟩
 case round =>
  rename World=>wo
  obtain ⟨k,m,O,hk,hm,rfl,rfl,hF,hO,hown,hbl⟩:=hrel
  have hsz:=hbl.size
  by_cases hka:k<a.length
  ·obtain ⟨ba,oa,x,y,rfl,hba,hx,a1,a2⟩:=(HA.out.below (fun _ h=>h) hbl).rng_at hka
   have HX:=Lib.hid (jdi hx.out)
   go_wp2
   go_loopw [5,6] (fun u j wi=>∃ (m:Nat) (O:List (Int × Int)) (x':Int),m≤b.length∧j = .int .i64 m∧Hid (jbo a b=O ++ jbo ((x',y) :: a.drop (k+1)) (b.drop m))∧O.length≤k+m∧OwnR wi w.heap.size 87 u O∧Hid (u.ownBlock≠some wo.heap.size)∧wo.heap.size<wi.heap.size∧wi.cell? ⟨wo.heap.size,0,none⟩=some (.int .i64 x')∧wi.cell? ⟨wo.heap.size,1,none⟩=some (.int .i64 y)∧wi.frozen? ⟨wo.heap.size,0,none⟩=false∧wi.frozen? ⟨wo.heap.size,1,none⟩=false∧Below w.heap.size w wi) (fun _ j _=>b.length-(intOf j).toNat)
   case atStart =>
    refine ⟨m,O,x,hm,rfl,?_,hO,hown.alloc _,?_,by simp,by simp,by simp,by simp,by simp,hbl.alloc hsz _⟩
    ·show jbo a b=_
     rw [hF.out,HX.out]
    ·intro e
     have:=hown.lt _ e
     omega
   case round =>
    clear hown
    rename World=>wi
    obtain ⟨m,O,x',hm,rfl,hF,hO,hown,hne,hlt,r0,r1,f0,f1,hbl⟩:=hrel
    by_cases hmb:m<b.length
    ·obtain ⟨bb,ob,p,q,rfl,hbb,hq,b1,b2⟩:=(HB.out.below (fun _ h=>h) hbl).rng_at hmb
     obtain ⟨i1,i2,i3,i4⟩:=jx9 HI.out hq.out
     by_cases hqy:q<y
     ·go_wp2_with fail
      go_quiet (fail)
      obtain ⟨w2,hw2⟩:∃ w2,wi.drewN nq=w2:=⟨_,rfl⟩
      have r0:w2.cell? ⟨wo.heap.size,0,none⟩=some (.int .i64 x'):=by subst hw2;exact r0
      have r1:w2.cell? ⟨wo.heap.size,1,none⟩=some (.int .i64 y):=by subst hw2;exact r1
      have f0:w2.frozen? ⟨wo.heap.size,0,none⟩=false:=by subst hw2;exact f0
      have f1:w2.frozen? ⟨wo.heap.size,1,none⟩=false:=by subst hw2;exact f1
      have b1:w2.cell? ⟨bb,ob+m*2,none⟩=some (.int .i64 p):=by subst hw2;exact b1
      have b2:w2.cell? ⟨bb,ob+m*2+1,none⟩=some (.int .i64 q):=by subst hw2;exact b2
      have hbl:Below w.heap.size w w2:=by subst hw2;exact below_drewN hbl _
      have hown:OwnR w2 w.heap.size 87 u5 O:=by subst hw2;exact hown
      have hlt:wo.heap.size<w2.heap.size:=by subst hw2;exact hlt
      rw [hw2]
      clear hw2
      have w1:IntKind.i64.wrap (p-1)=p-1:=IntWalk.i64_in _ (by omega)
      go_wp2_with fail
      go_still_tail 10,(by kernel_rfl)
      clear w1
      go_wp2_with fail
      refine (jqv w.heap.size _ O _ _ _ (by exact hown) (by exact hbl.size) (by omega)).mono ?_
      rintro e w' ⟨v',rfl,ho,hg,hmv⟩
      have HN:Hid (v'.ownBlock≠some wo.heap.size):=by
       intro e
       rcases hmv _ e with h' | h'
       ·exact hne.out h'
       ·have h'':w2.heap.size≤wo.heap.size:=h'
        omega
      have hbk:w'.heap[wo.heap.size]? = w2.heap[wo.heap.size]?:=hg.block _ (by exact hlt) (fun e=>hne.out e.symm)
      have r0':=(World.cell?_of_block (a:=⟨wo.heap.size,0,none⟩) hbk).trans r0
      have r1':=(World.cell?_of_block (a:=⟨wo.heap.size,1,none⟩) hbk).trans r1
      have f0':=(World.frozen?_of_block (a:=⟨wo.heap.size,0,none⟩) hbk).trans f0
      have f1':=(World.frozen?_of_block (a:=⟨wo.heap.size,1,none⟩) hbk).trans f1
      have hb3:Below w.heap.size w2 w':=Below.grown (a:=w2) (w:=w2) (Below.refl _ _) (by exact ⟨hg.os,hg.tape,hg.output,hg.size,hg.block⟩) hbl.size (fun _ hr=>(hown.lt _ hr).1)
      have hb2:Below w.heap.size w w':=hbl.trans hb3
      have hlt':wo.heap.size<w'.heap.size:=Nat.lt_of_lt_of_le hlt hb3.size
      have b2':=(hb3.cell (p:=⟨bb,ob+m*2+1,none⟩) hbb).trans b2
      have HL:=Lib.hid (jj7 x' (p-1))
      have HO:=Lib.hid ho
      have HX:=Lib.hid (yos (rs:=a.drop (k+1)) (x:=x') hq.out hqy)
      clear ho hown hg hmv b1 b2 r0 r1 f0 f1 hbk hne
      have w1:IntKind.i64.wrap (q+1)=q+1:=IntWalk.i64_in _ (by omega)
      go_wp2_with fail
      go_region
      clear w1
      go_wp2
      have em:max x' (q+1)=(if x'<q+1 then q+1 else x'):=by simp only [Int.max_def];split <;> split <;> omega
      refine ⟨⟨m+1,O ++ addL x' (p-1),max x' (q+1),by omega,by go_num,?_,?_,?_,HN,?_,?_,?_,?_,?_,?_⟩,by simp [intOf];omega⟩
      ·show jbo a b=_
       rw [hF.out,HX.out,List.append_assoc]
      ·have:=HL.out
       rw [List.length_append];omega
      ·exact OwnR.setCell_other HO.out (by exact HN.out) _
      ·simpa [World.setCell] using hlt'
      ·rw [em];exact World.cell?_setCell_same w' _ _ r0'
      ·exact (World.cell?_setCell_other w' _ _ _ (by simp)).trans r1'
      ·simpa using f0'
      ·simpa using f1'
      ·exact (hb2.setCell (by exact hsz) _).drew
     ·go_wp2_with fail
      go_quiet (fail)
      have w1:IntKind.i64.wrap (p-1)=p-1:=IntWalk.i64_in _ (by omega)
      go_wp2_with fail
      go_region
      clear w1
      go_wp2_with fail
      all_goals
       refine (jqv w.heap.size _ O _ _ _ (by exact OwnR.setCell_other hown (by exact hne.out) _) (by simpa [World.setCell] using hbl.size) (by omega)).mono ?_
       rintro e w' ⟨v',rfl,ho,hg,hmv⟩
       have hb2:Below w.heap.size w w':=((below_drewN hbl (nq+1)).setCell (by exact hsz) _).grown hg (by simpa [World.setCell] using hbl.size) (fun _ hr=>(hown.lt _ hr).1)
       have HL:=Lib.hid (jj7 x' (min y (p-1)))
       have HY:=Lib.hid (ykv (rs:=a.drop (k+1)) (x:=x') hq.out (by omega))
       rw [jra (x':=x') (y':=min y (p-1)) rfl (by omega)] at ho
       have HO:=Lib.hid ho
       clear ho hg hmv
       go_wp2
       refine ⟨⟨k+1,m,_,by omega,hm,by go_num,rfl,?_,?_,HO.out,hb2⟩,by simp [intOf];omega⟩
       ·show jbo a b=_
        rw [hF.out,HY.out,List.append_assoc]
       ·have:=HL.out
        rw [List.length_append];omega
    ·have hd:decide (m<b.length)=false:=decide_eq_false hmb
     go_wp2_with fail
     go_quiet (fail)
     go_wp2_with fail
     refine (jqv w.heap.size _ O _ _ _ (by exact hown) (by exact hbl.size) (by omega)).mono ?_
     rintro e w' ⟨v',rfl,ho,hg,hmv⟩
     have hb2:Below w.heap.size w w':=(below_drewN hbl _).grown hg (by exact hbl.size) (fun _ hr=>(hown.lt _ hr).1)
     have HL:=Lib.hid (jj7 x' y)
     have HY:=Lib.hid (yku (rs:=a.drop (k+1)) (x:=x') (y:=y) (show b.length≤m by omega))
     have HO:=Lib.hid ho
     clear ho hg hmv
     go_wp2
     refine ⟨⟨k+1,m,_,by omega,hm,by go_num,rfl,?_,?_,HO.out,hb2⟩,by simp [intOf];omega⟩
     ·show jbo a b=_
      rw [hF.out,HY.out,List.append_assoc]
     ·have:=HL.out
      rw [List.length_append];omega
  ·have HD:=Lib.hid (yhh (a:=a) (b:=b.drop m) (k:=k) (by omega))
   go_wp2
   go_ret
   exact jcn.mk (by rw [hF.out,HD.out,List.append_nil];exact hown) hbl
end Go.Proofs.YthmlndmlnlfhnaaGreatDoor
