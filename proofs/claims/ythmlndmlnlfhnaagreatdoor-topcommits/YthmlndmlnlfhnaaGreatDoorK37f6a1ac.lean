import Derived.Deep.MidRow
import Derived.Test.YthmlndmlnlfhnaaGreatDoorK0eac27d1
set_option maxRecDepth 100000
set_option maxHeartbeats 16000000
namespace Go.Proofs.YthmlndmlnlfhnaaGreatDoor
open Go.RowKit Go.Shelf
theorem yur:Tryz.prog.underlying 70=some (.array 4 41):=by kernel_rfl
theorem yuy:(Tryz.prog.info? 70).map (·.size)=some 28:=by kernel_rfl
theorem Cs.range {w:World} {b:Nat} {vs:List Value} (h:Cs w b vs):w.rangeAt b 0 vs:=fun j v hv=>by rw [Nat.zero_add];exact h.at j hv
theorem Cs.there {w:World} {b:Nat} {vs:List Value} (h:Cs w b vs):w.there b 0 vs.length:=fun j hj=>by
 rw [Nat.zero_add]
 exact ⟨by rw [h.at j (List.getElem?_eq_getElem hj)];rfl,h.2.2 j hj⟩
theorem yt6 (b:Nat):∀ (vs:List Value) (o:Nat) (w:World),(w.setCells b o vs).heap.size=w.heap.size
 | [],_,_=>rfl
 | v :: r,o,w=>by rw [World.setCells,yt6 b r];simp [World.setCell]
theorem yt2 (b:Nat):∀ (vs:List Value) (o:Nat) (w:World),Below b w (w.setCells b o vs)
 | [],_,w=>Below.refl _ w
 | v :: r,o,w=>by rw [World.setCells];exact (jal w b o v).trans (yt2 b r (o+1) _)
theorem Cs.setCells {w:World} {b:Nat} {ys vs:List Value} (h:Cs w b ys) (hl:ys.length=vs.length):Cs (w.setCells b 0 vs) b vs :=
 ⟨by rw [yt6];exact h.1,fun j v hv=>by
  have hj:=(List.getElem?_eq_some_iff.1 hv).1
  have:=World.cell?_setCells_in b vs 0 w (fun i hi=>(h.there i (by omega)).1) j hj
  rw [Nat.zero_add] at this
  rw [this,← hv,List.getElem?_eq_getElem hj],fun j hj=>by rw [World.frozen?_setCells];exact h.2.2 j (by omega)⟩
theorem yt9 {P:Program} {ops:Array Oper} {o:Oper} {a:Act} {w:World} {K:Act→World→Prop} {Q:Exit→Act→World→Prop} {X:Prop}
  (hg:o.guard=none) (ty:TypeId) (x y:Operand) (ho:o.op = .store ty x y) (b:Nat) (cs:List Value) (hx:a.eval x = .pointer (some ⟨b,0,none⟩)) (hy:a.eval y = .agg cs.toArray)
  (ht:w.there b 0 cs.length) (hi:(P.info? ty).map (·.size)=some cs.length) (h1:∀ v∈cs,v.oneCell'=true) (h:K (a.put o.dst undef) (w.setCells b 0 cs)) :
  if Region.wanted o (yielded ops a.tmps)=true then Oper.wp P o a w K Q else X:=by
 have hw:Region.wanted o (yielded ops a.tmps)=true:=by simp [Region.wanted,hg]
 rw [if_pos hw]
 exact wp_store_mid ty x y ho b 0 cs.toArray hx hy ht hi (all_oneCell_toArray h1) h
theorem Mine.set0 {w w1:World} {g b o:Nat} {σ:StoreD} {c:Nat→Nat} {vs:List Value} {vl v:Value} (h:Mine w w1 g σ c vs vl) (hc:c b=0) (hb:w.heap.size≤b):Mine w (w1.setCell ⟨b,o,none⟩ v) g σ c vs vl :=
 ⟨h.st.keep (fun q hq=>RowKit.Below.heap_setCell _ _ _ _ (show q≠b from fun e=>hq (e ▸ hc))) (by simp [World.setCell]),h.old,h.below.setCell hb _⟩
def putO (w:World) (b o:Nat) (x0 x1 x2 x3 x4 x5 x6:Value):World :=
 ((((((w.setCell ⟨b,o,none⟩ x0).setCell ⟨b,o+1,none⟩ x1).setCell ⟨b,o+2,none⟩ x2).setCell ⟨b,o+3,none⟩ x3).setCell ⟨b,o+4,none⟩ x4).setCell ⟨b,o+5,none⟩ x5).setCell ⟨b,o+6,none⟩ x6
def putL (l:List Value) (o:Nat) (x0 x1 x2 x3 x4 x5 x6:Value):List Value:=((((((l.set o x0).set (o+1) x1).set (o+2) x2).set (o+3) x3).set (o+4) x4).set (o+5) x5).set (o+6) x6
theorem yuz {w:World} {b o:Nat} {l:List Value} (h:Cs w b l) (ho:o+7≤l.length) (x0 x1 x2 x3 x4 x5 x6:Value):Cs (putO w b o x0 x1 x2 x3 x4 x5 x6) b (putL l o x0 x1 x2 x3 x4 x5 x6) :=
 ((((((h.set o (by omega) x0).set (o+1) (by simp;omega) x1).set (o+2) (by simp;omega) x2).set (o+3) (by simp;omega) x3).set (o+4) (by simp;omega) x4).set (o+5) (by simp;omega) x5).set (o+6) (by simp;omega) x6
theorem yug (w:World) (b o:Nat) (x0 x1 x2 x3 x4 x5 x6:Value):(putO w b o x0 x1 x2 x3 x4 x5 x6).heap.size=w.heap.size:=by simp [putO,World.setCell]
theorem yua (w:World) (b o:Nat) (x0 x1 x2 x3 x4 x5 x6:Value) (k:Nat) (h:k≠b):(putO w b o x0 x1 x2 x3 x4 x5 x6).heap[k]? = w.heap[k]?:=by
 unfold putO
 rw [RowKit.Below.heap_setCell _ _ _ _ h,RowKit.Below.heap_setCell _ _ _ _ h,RowKit.Below.heap_setCell _ _ _ _ h,RowKit.Below.heap_setCell _ _ _ _ h,RowKit.Below.heap_setCell _ _ _ _ h,RowKit.Below.heap_setCell _ _ _ _ h,RowKit.Below.heap_setCell _ _ _ _ h]
theorem yup {w w1:World} {g b o:Nat} {σ:StoreD} {c:Nat→Nat} {vs:List Value} {vl:Value} (h:Mine w w1 g σ c vs vl) (hc:c b=0) (hb:w.heap.size≤b) (x0 x1 x2 x3 x4 x5 x6:Value):Mine w (putO w1 b o x0 x1 x2 x3 x4 x5 x6) g σ c vs vl :=
 ((((((h.set0 hc hb).set0 hc hb).set0 hc hb).set0 hc hb).set0 hc hb).set0 hc hb).set0 hc hb
theorem yuv (l:List Value) (o:Nat) (x0 x1 x2 x3 x4 x5 x6:Value):(putL l o x0 x1 x2 x3 x4 x5 x6).length=l.length:=by simp [putL]
theorem yux {l:List Value} {o i:Nat} (x0 x1 x2 x3 x4 x5 x6:Value) (h:i<o):(putL l o x0 x1 x2 x3 x4 x5 x6)[i]? = l[i]?:=by
 unfold putL
 rw [List.getElem?_set_ne (by omega),List.getElem?_set_ne (by omega),List.getElem?_set_ne (by omega),List.getElem?_set_ne (by omega),List.getElem?_set_ne (by omega),List.getElem?_set_ne (by omega),List.getElem?_set_ne (by omega)]
theorem yuw {l:List Value} {o j:Nat} {v:Value} (x0 x1 x2 x3 x4 x5 x6:Value) (h:o+7≤l.length) (hv:([x0,x1,x2,x3,x4,x5,x6]:List Value)[j]? = some v):(putL l o x0 x1 x2 x3 x4 x5 x6)[o+j]? = some v:=by
 have hj:j<7:=(List.getElem?_eq_some_iff.1 hv).1
 have hj':j=0∨j=1∨j=2∨j=3∨j=4∨j=5∨j=6:=by omega
 unfold putL
 rcases hj' with rfl | rfl | rfl | rfl | rfl | rfl | rfl <;> simp at hv <;> subst hv <;> simp [List.getElem?_set] <;> omega
theorem CmSt.one {w0 W:World} {c:Nat→Nat} {wb xb:Nat} {B:List BookD} {X:Nat→SessD} {vw:Value} {xs:List Value} (h:CmSt w0 W c wb xb B X vw xs):∀ v∈xs,v.oneCell'=true:=by
 intro v hv
 obtain ⟨i,hi,e⟩:=List.getElem_of_mem hv
 have hl:=h.len
 have hx:xs[i]? = some v:=by rw [List.getElem?_eq_getElem hi,e]
 clear e hv
 obtain ⟨n,j,rfl,hn,hj⟩:∃ n j,i=n*7+j∧n<4∧j<7:=⟨i / 7,i % 7,by omega,by omega,by omega⟩
 obtain ⟨vd,vt,vg,vr,y1,y2,y3,y4,y5⟩:=h.ses n hn
 obtain ⟨D,d,rfl,-,-⟩:=y1.form
 obtain ⟨T,t,rfl,-,-⟩:=y2.form
 obtain ⟨G,g,rfl,-,-⟩:=y3.form
 obtain ⟨H,hh,rfl,-,-⟩:=y4.form
 have hj':j=0∨j=1∨j=2∨j=3∨j=4∨j=5∨j=6:=by omega
 have en:∀ j u,(jpv (X n) (.slice D (X n).mine.doms.length d) (.slice T (X n).mine.tabs.length t) (.slice G (X n).gone.length g) (.slice H (X n).read.length hh))[j]? = some u→xs[n*7+j]? = some v→u=v:=fun j u h1 h2=>Option.some.inj ((y5 j u h1).symm.trans h2)
 rcases hj' with rfl | rfl | rfl | rfl | rfl | rfl | rfl
 ·rw [← en 0 _ rfl hx];rfl
 ·rw [← en 1 _ rfl hx];rfl
 ·rw [← en 2 _ rfl hx];rfl
 ·rw [← en 3 _ rfl hx];rfl
 ·rw [← en 4 _ rfl hx];rfl
 ·rw [← en 5 _ rfl hx];rfl
 ·rw [← en 6 _ rfl hx];rfl
theorem SesX.cells {W:World} {S:Nat→Prop} {n:Nat} {x:SessD} {xs ys:List Value} (h:SesX W S n x xs) (he:∀ j,j<7→ys[n*7+j]? = xs[n*7+j]?):SesX W S n x ys:=by
 obtain ⟨vd,vt,vg,vr,h1,h2,h3,h4,h5⟩:=h
 exact ⟨vd,vt,vg,vr,h1,h2,h3,h4,fun j v hj=>(he j (by have:=(List.getElem?_eq_some_iff.1 hj).1;simpa [jpv] using this)).trans (h5 j v hj)⟩
structure KeepX (b:Nat) (w w':World):Prop where
 size:w.heap.size≤w'.heap.size
 block:∀ q,q<w.heap.size→q≠b→w'.heap[q]? = w.heap[q]?
theorem KeepX.refl (b:Nat) (w:World):KeepX b w w:=⟨Nat.le_refl _,fun _ _ _=>rfl⟩
theorem KeepX.next {b:Nat} {w w1 w2:World} (h:KeepX b w w1) (hb:Below w1.heap.size w1 w2):KeepX b w w2:=⟨Nat.le_trans h.size hb.size,fun q h1 h2=>(hb.block q (Nat.lt_of_lt_of_le h1 h.size)).trans (h.block q h1 h2)⟩
theorem KeepX.put {b o:Nat} {w w1:World} (h:KeepX b w w1) (x0 x1 x2 x3 x4 x5 x6:Value):KeepX b w (putO w1 b o x0 x1 x2 x3 x4 x5 x6):=⟨by rw [yug];exact h.size,fun q h1 h2=>(yua _ _ _ _ _ _ _ _ _ _ q h2).trans (h.block q h1 h2)⟩
theorem yuf (l:List ActD) (w0:World) (hv:VarsOk w0) (wb xb:Nat):ysi 31 #[.pointer (some ⟨wb,0,none⟩),.pointer (some ⟨xb,0,none⟩)] (JCm w0 wb xb l) l w0:=by
 intro k a σ W1 cc1 W g c vs vl Ai A1 A2 ci k1 k2 hak hk50 hσ hJ1 hFr hold hM hin hans hat
 have hJ:=hJ1.keep hFr hold
 clear hJ1 hFr hold
 have HV:=Lib.hid hv
 have HM:=Lib.hid hM
 have HI:Hid (Inv σ):=by show Inv σ;rw [hσ.out];exact jtj Inv.new
 have HI':Hid (Inv (doV σ a).1):=hM.st.inv
 have HCC:=Lib.hid (yud σ a)
 have HF:Hid (k=0→(doV σ a).1.states = [jif]):=fun e=>by subst e;rw [hσ.out];exact yue a
 have HNX:Hid (runV newV (l.take (k+1))=(doV σ a).1):=by show _=_;rw [jtk newV hak,hσ.out]
 obtain ⟨vw,xs,hC⟩:=hJ
 rw [← hσ.out] at hC
 obtain ⟨B,hB⟩:∃ B,B=wasV l k:=⟨_,rfl⟩
 rw [← hB] at hC
 have HB:Hid (B=if k=0 then [] else σ.states):=by show _=_;rw [hB,hσ.out];rfl
 clear hB hσ
 have HL:=Lib.hid hC.len
 have H1:=Lib.hid hC.one
 obtain ⟨NO,hNO⟩:∃ NO,NO=B.length:=⟨_,rfl⟩
 obtain ⟨Aw,kw,e,hno1,hno2⟩:=hC.was.form
 rw [← hNO] at e hno1
 subst e
 unfold maxLen at hno2
 have HNO:=Lib.hid hNO
 have HC:=Lib.hid hC
 have hwbl:wb<W.heap.size:=hC.cw.1
 have hxbl:xb<W.heap.size:=hC.cx.1
 have hne:wb≠xb:=hC.ne
 have HCW:=Lib.hid hC.cwb
 have HCX:=Lib.hid hC.cxb
 have hbw:=hC.bw
 have hbx:=hC.bx'
 obtain ⟨kind,n,name,text,inp⟩:=a
 simp only at hin HCC
 generalize hDO:doV σ ⟨kind,n,name,text,inp⟩=D at *
 obtain ⟨σ',R⟩:=D
 simp only at HM hans hat HCC HF HNX HI'
 clear hM hC hin hans hat hak hDO hNO
 have hcf:∀ b,W.heap.size≤b→c b=0:=fun b hb=>jb1 HM.out.st.lt hb
 have HCF:=Lib.hid hcf
 clear hcf
 have hb1:=jac W (.cells #[.int .i64 kind,.int .i64 n,.string name,.string text,.slice Ai inp.length ci] 24)
 have CA1:=Lib.hid (Cs.new W [.int .i64 kind,.int .i64 n,.string name,.string text,.slice Ai inp.length ci] 24)
 change Hid (Cs (W.alloc (.cells #[.int .i64 kind,.int .i64 n,.string name,.string text,.slice Ai inp.length ci] 24)) _ _) at CA1
 have hz1:(W.alloc (.cells #[.int .i64 kind,.int .i64 n,.string name,.string text,.slice Ai inp.length ci] 24)).heap.size=W.heap.size+1:=by simp
 generalize hw1:W.alloc (.cells #[.int .i64 kind,.int .i64 n,.string name,.string text,.slice Ai inp.length ci] 24)=w1 at *
 have hb2:=jac w1 (.cells #[.int .i64 R.code,.int .i64 R.n,.string R.text,.slice A1 R.answers.length k1,.slice A2 R.at_.length k2] 30)
 have CR2:=Lib.hid (Cs.new w1 [.int .i64 R.code,.int .i64 R.n,.string R.text,.slice A1 R.answers.length k1,.slice A2 R.at_.length k2] 30)
 change Hid (Cs (w1.alloc (.cells #[.int .i64 R.code,.int .i64 R.n,.string R.text,.slice A1 R.answers.length k1,.slice A2 R.at_.length k2] 30)) _ _) at CR2
 rw [hz1] at CR2
 have hz2:(w1.alloc (.cells #[.int .i64 R.code,.int .i64 R.n,.string R.text,.slice A1 R.answers.length k1,.slice A2 R.at_.length k2] 30)).heap.size=W.heap.size+2:=by simp;omega
 generalize hw2:w1.alloc (.cells #[.int .i64 R.code,.int .i64 R.n,.string R.text,.slice A1 R.answers.length k1,.slice A2 R.at_.length k2] 30)=w2 at *
 have hb02:=bx hb1 hb2
 have M2:=Lib.hid (HM.out.next hb02)
 have CA2:=Lib.hid (CA1.out.next hb2)
 show Calls Tryz.prog 31 #[.pointer (some ⟨g,0,none⟩),.agg #[.int .i64 kind,.int .i64 n,.string name,.string text,.slice Ai inp.length ci],.agg #[.int .i64 R.code,.int .i64 R.n,.string R.text,.slice A1 R.answers.length k1,.slice A2 R.at_.length k2],.pointer (some ⟨wb,0,none⟩),.pointer (some ⟨xb,0,none⟩)] W _
 go_enter Tryz.func31,Tryz.ntmps31
 go_wp2_with fail
 clear hw1 hw2
 refine (jhq σ' c g vs vl _ M2.out.st).mono ?_
 rintro e w3 ⟨v3,rfl,hs3,hb3⟩
 have HS3:=Lib.hid hs3
 obtain ⟨NN,hNN⟩:∃ NN,NN = σ'.states.length:=⟨_,rfl⟩
 obtain ⟨A3,k3,e3,hnn1,hnn2⟩:=hs3.form
 rw [← hNN] at e3 hnn1
 subst e3
 unfold maxLen at hnn2
 have HNN:=Lib.hid hNN
 clear hs3 hNN
 have hb03:=bx hb02 hb3
 have hz3:=hb3.size
 have M3:=Lib.hid (M2.out.next hb3)
 have CA3:=Lib.hid (CA2.out.next hb3)
 have CR3:=Lib.hid (CR2.out.next hb3)
 have HC3:=Lib.hid (HC.out.keep (Fr.below hb03) (fun _ _=>rfl))
 have hbd:=(Below.refl w3.heap.size w3).drew
 have HC3d:=Lib.hid (HC3.out.keep (Fr.below hbd) (fun _ _=>rfl))
 have hb4:=jac w3 (.cells #[.bool false,.bool false,.int .i64 0,.slice none 0 0,.slice none 0 0,.slice none 0 0,.slice none 0 0,.bool false,.bool false,.int .i64 0,.slice none 0 0,.slice none 0 0,.slice none 0 0,.slice none 0 0,.bool false,.bool false,.int .i64 0,.slice none 0 0,.slice none 0 0,.slice none 0 0,.slice none 0 0,.bool false,.bool false,.int .i64 0,.slice none 0 0,.slice none 0 0,.slice none 0 0,.slice none 0 0] 70)
 have hb34:=bx hb4 ((Below.refl (w3.alloc (.cells #[.bool false,.bool false,.int .i64 0,.slice none 0 0,.slice none 0 0,.slice none 0 0,.slice none 0 0,.bool false,.bool false,.int .i64 0,.slice none 0 0,.slice none 0 0,.slice none 0 0,.slice none 0 0,.bool false,.bool false,.int .i64 0,.slice none 0 0,.slice none 0 0,.slice none 0 0,.slice none 0 0,.bool false,.bool false,.int .i64 0,.slice none 0 0,.slice none 0 0,.slice none 0 0,.slice none 0 0] 70)).heap.size (w3.alloc (.cells #[.bool false,.bool false,.int .i64 0,.slice none 0 0,.slice none 0 0,.slice none 0 0,.slice none 0 0,.bool false,.bool false,.int .i64 0,.slice none 0 0,.slice none 0 0,.slice none 0 0,.slice none 0 0,.bool false,.bool false,.int .i64 0,.slice none 0 0,.slice none 0 0,.slice none 0 0,.slice none 0 0,.bool false,.bool false,.int .i64 0,.slice none 0 0,.slice none 0 0,.slice none 0 0,.slice none 0 0] 70))).drew)
 have HC4:=Lib.hid (HC3.out.keep (Fr.below hb34) (fun _ _=>rfl))
 have CZ4:=Lib.hid (Cs.new w3 [.bool false,.bool false,.int .i64 0,.slice none 0 0,.slice none 0 0,.slice none 0 0,.slice none 0 0,.bool false,.bool false,.int .i64 0,.slice none 0 0,.slice none 0 0,.slice none 0 0,.slice none 0 0,.bool false,.bool false,.int .i64 0,.slice none 0 0,.slice none 0 0,.slice none 0 0,.slice none 0 0,.bool false,.bool false,.int .i64 0,.slice none 0 0,.slice none 0 0,.slice none 0 0,.slice none 0 0] 70).drew
 change Hid (Cs (w3.alloc (.cells #[.bool false,.bool false,.int .i64 0,.slice none 0 0,.slice none 0 0,.slice none 0 0,.slice none 0 0,.bool false,.bool false,.int .i64 0,.slice none 0 0,.slice none 0 0,.slice none 0 0,.slice none 0 0,.bool false,.bool false,.int .i64 0,.slice none 0 0,.slice none 0 0,.slice none 0 0,.slice none 0 0,.bool false,.bool false,.int .i64 0,.slice none 0 0,.slice none 0 0,.slice none 0 0,.slice none 0 0] 70)).drew w3.heap.size _) at CZ4
 have hb5:=yt2 w3.heap.size xs 0 (w3.alloc (.cells #[.bool false,.bool false,.int .i64 0,.slice none 0 0,.slice none 0 0,.slice none 0 0,.slice none 0 0,.bool false,.bool false,.int .i64 0,.slice none 0 0,.slice none 0 0,.slice none 0 0,.slice none 0 0,.bool false,.bool false,.int .i64 0,.slice none 0 0,.slice none 0 0,.slice none 0 0,.slice none 0 0,.bool false,.bool false,.int .i64 0,.slice none 0 0,.slice none 0 0,.slice none 0 0,.slice none 0 0] 70)).drew
 have hb35:Below w3.heap.size w3 ((w3.alloc (.cells #[.bool false,.bool false,.int .i64 0,.slice none 0 0,.slice none 0 0,.slice none 0 0,.slice none 0 0,.bool false,.bool false,.int .i64 0,.slice none 0 0,.slice none 0 0,.slice none 0 0,.slice none 0 0,.bool false,.bool false,.int .i64 0,.slice none 0 0,.slice none 0 0,.slice none 0 0,.slice none 0 0,.bool false,.bool false,.int .i64 0,.slice none 0 0,.slice none 0 0,.slice none 0 0,.slice none 0 0] 70)).drew.setCells w3.heap.size 0 xs):=jig hb34 hb5 (Nat.le_refl _)
 have CO5:Hid (Cs ((w3.alloc (.cells #[.bool false,.bool false,.int .i64 0,.slice none 0 0,.slice none 0 0,.slice none 0 0,.slice none 0 0,.bool false,.bool false,.int .i64 0,.slice none 0 0,.slice none 0 0,.slice none 0 0,.slice none 0 0,.bool false,.bool false,.int .i64 0,.slice none 0 0,.slice none 0 0,.slice none 0 0,.slice none 0 0,.bool false,.bool false,.int .i64 0,.slice none 0 0,.slice none 0 0,.slice none 0 0,.slice none 0 0] 70)).drew.setCells w3.heap.size 0 xs) w3.heap.size xs):=CZ4.out.setCells (by rw [HL.out];rfl)
 have HC5:=Lib.hid (HC3.out.keep (Fr.below hb35) (fun _ _=>rfl))
 have HT4:Hid ((w3.alloc (.cells #[.bool false,.bool false,.int .i64 0,.slice none 0 0,.slice none 0 0,.slice none 0 0,.slice none 0 0,.bool false,.bool false,.int .i64 0,.slice none 0 0,.slice none 0 0,.slice none 0 0,.slice none 0 0,.bool false,.bool false,.int .i64 0,.slice none 0 0,.slice none 0 0,.slice none 0 0,.slice none 0 0,.bool false,.bool false,.int .i64 0,.slice none 0 0,.slice none 0 0,.slice none 0 0,.slice none 0 0] 70)).drew.there w3.heap.size 0 xs.length):=by
  have:=CZ4.out.there
  rw [HL.out];exact this
 have HI28:Hid ((Tryz.prog.info? 70).map (·.size)=some xs.length):=by show _=_;rw [HL.out];exact yuy
 go_wp2_with fail
 refine wp_region_held_drew (S:=fun w'=>w'.cell? ⟨wb,0,none⟩=some (.slice Aw NO kw)∧w'.rangeAt xb 0 xs) (by kernel_rfl) ⟨HC3d.out.cw.at 0 rfl,HC3d.out.cx.range⟩ (fun hHeld=>?_)
 refine wpAnyH_take (i:=0) (oi:={ dst:=some 16,op:=Op.load 32 (Operand.tmp 3),type:=32,pos:= "top.go:235",after:=#[],guard:=none }) (v:=?_) (fuel:=4) rfl (by kernel_rfl) (by kernel_rfl) (by kernel_rfl) (fun _ _ _ h=>h) (Or.inl ⟨by rfl,?_⟩) (by assumption) ?_
 rotate_left 1
 ·(intro w' hSw;(try dsimp only at hSw);go_simp;try with_reducible rfl)
 simp only [Act.put,List.setIfInBounds_toArray,List.set_cons_zero,List.set_cons_succ]
 refine wpAnyH_take (i:=1) (oi:={ dst:=some 17,op:=Op.load 70 (Operand.tmp 4),type:=70,pos:= "top.go:235",after:=#[{ on:=3,ground:=Ground.gcOnly Departure.lateStores }],guard:=none }) (v:=.agg xs.toArray) (fuel:=3) rfl (by kernel_rfl) (by kernel_rfl) (by kernel_rfl) (fun _ _ _ h=>h) (yieldsIf_load_mid (by rfl) 70 (.tmp 4) rfl xb 0 (by rfl) xs _ (fun w hw=>hw.2) yur rfl HI28.out) (by assumption) ?_
 simp only [Act.put,List.setIfInBounds_toArray,List.set_cons_zero,List.set_cons_succ]
 refine wpAnyH_ready (rs:=[2]) (fuel:=2) (by kernel_rfl) (by simp) ?_
 refine AllReadyH.cons (o:={ dst:=some 11,op:=Op.alloc 70,type:=0,pos:= "top.go:235",after:=#[],guard:=none }) rfl (fun K hK=>?_) AllReadyH.nil
 go_simp
 refine hK.out _ _ ⟨HC4.out.cw.at 0 rfl,HC4.out.cx.range⟩ (fun hHeld=>?_)
 clear hK K
 (try simp only [Act.put,List.setIfInBounds_toArray,List.set_cons_zero,List.set_cons_succ])
 refine wpAnyH_take (i:=3) (oi:={ dst:=some 10,op:=Op.assign (Operand.tmp 16),type:=32,pos:= "top.go:235",after:=#[{ on:=0,ground:=Ground.data },{ on:=0,ground:=Ground.phase },{ on:=1,ground:=Ground.textOnly Departure.lateStores },{ on:=2,ground:=Ground.phase }],guard:=none }) (v:=?_) (fuel:=1) rfl (by kernel_rfl) (by kernel_rfl) (by kernel_rfl) (fun _ _ _ h=>h) (Or.inl ⟨by rfl,?_⟩) (by assumption) ?_
 rotate_left 1
 ·(intro w' hSw;(try dsimp only at hSw);go_simp;try with_reducible rfl)
 simp only [Act.put,List.setIfInBounds_toArray,List.set_cons_zero,List.set_cons_succ]
 refine wpAnyH_ready (rs:=[4]) (fuel:=0) (by kernel_rfl) (by simp) ?_
 refine AllReadyH.cons (o:={ dst:=none,op:=Op.store 70 (Operand.tmp 11) (Operand.tmp 17),type:=0,pos:= "top.go:235",after:=#[{ on:=2,ground:=Ground.data },{ on:=1,ground:=Ground.data },{ on:=3,ground:=Ground.chain },{ on:=0,ground:=Ground.phase },{ on:=1,ground:=Ground.phase },{ on:=2,ground:=Ground.phase },{ on:=3,ground:=Ground.phase }],guard:=none }) rfl (fun K hK=>?_) AllReadyH.nil
 refine yt9 rfl 70 (.tmp 11) (.tmp 17) rfl w3.heap.size xs (by rfl) (by rfl) HT4.out HI28.out H1.out ?_
 refine hK.out _ _ ⟨HC5.out.cw.at 0 rfl,HC5.out.cx.range⟩ (fun hHeld=>?_)
 clear hK K
 (try simp only [Act.put])
 refine wpAnyH_done (by kernel_rfl) ?_ _
 clear hHeld
 generalize hw4:(w3.alloc (.cells #[.bool false,.bool false,.int .i64 0,.slice none 0 0,.slice none 0 0,.slice none 0 0,.slice none 0 0,.bool false,.bool false,.int .i64 0,.slice none 0 0,.slice none 0 0,.slice none 0 0,.slice none 0 0,.bool false,.bool false,.int .i64 0,.slice none 0 0,.slice none 0 0,.slice none 0 0,.slice none 0 0,.bool false,.bool false,.int .i64 0,.slice none 0 0,.slice none 0 0,.slice none 0 0,.slice none 0 0] 70)).drew.setCells w3.heap.size 0 xs=w4 at *
 clear hw4
 have cw:=HC5.out.cw.at 0 rfl
 have fw:=HC5.out.cw.2.2 0 (by simp)
 have M5:=Lib.hid ((M3.out.next hb35).set0 (o:=0) (v:=.slice A3 NN k3) HCW.out hbw)
 have CW5:=Lib.hid (HC5.out.cw.set 0 (by simp) (.slice A3 NN k3))
 change Hid (Cs _ wb [.slice A3 NN k3]) at CW5
 go_wp2
 clear cw fw
 have hwk:∀ q,q≠wb→(w4.setCell ⟨wb,0,none⟩ (.slice A3 NN k3)).heap[q]? = w4.heap[q]?:=fun q hq=>RowKit.Below.heap_setCell _ _ _ _ hq
 have hws:(w4.setCell ⟨wb,0,none⟩ (.slice A3 NN k3)).heap.size=w4.heap.size:=by simp [World.setCell]
 have hs35:=hb35.size
 have CX5:=Lib.hid (HC5.out.cx.keep (hwk xb (Ne.symm hne)) (by omega))
 have CO6:=Lib.hid (CO5.out.keep (hwk w3.heap.size (by omega)) (by omega))
 have CA5:=Lib.hid ((CA3.out.next hb35).keep (hwk W.heap.size (by omega)) (by omega))
 have CR5:=Lib.hid ((CR3.out.next hb35).keep (hwk (W.heap.size+1) (by omega)) (by omega))
 have HS5:Hid (Sl Enc.book (w4.setCell ⟨wb,0,none⟩ (.slice A3 NN k3)) (From w2.heap.size w3) σ'.states (.slice A3 NN k3)):=HS3.out.keep fun p hp=>World.cell?_of_block ((hwk _ (by have:=hp.1;omega)).trans (hb35.block _ hp.2))
 have HW5:Hid (Sl Enc.book (w4.setCell ⟨wb,0,none⟩ (.slice A3 NN k3)) (yt7 W c wb xb) B (.slice Aw NO kw)):=HC.out.was.keep fun p hp=>World.cell?_of_block ((hwk _ hp.2.2.1).trans ((hb35.block _ (Nat.lt_of_lt_of_le hp.1 hb03.size)).trans (hb03.block _ hp.1)))
 have HX5:Hid (∀ q,q<4→SesX (w4.setCell ⟨wb,0,none⟩ (.slice A3 NN k3)) (yt7 W c wb xb) q (jce σ q) xs):=fun q hq=>(HC.out.ses q hq).keep (fun p hp=>(hwk _ hp.2.2.1).trans ((hb35.block _ (Nat.lt_of_lt_of_le hp.1 hb03.size)).trans (hb03.block _ hp.1))) (fun _ h=>h)
 have hz5:w3.heap.size<(w4.setCell ⟨wb,0,none⟩ (.slice A3 NN k3)).heap.size:=CO6.out.1
 generalize hw5:w4.setCell ⟨wb,0,none⟩ (.slice A3 NN k3)=w5 at *
 clear hw5 hwk hws hs35 HC3 HC3d HC4 CZ4 CO5 HC5 HT4 HC HS3 CA1 CA2 CA3 CR2 CR3 M2 M3 HM hb4 hb5 hb34 hb35 hbd
 go_loopw [19] (fun i wr=>∃ (m:Nat) (ys:List Value),m≤4∧i = .int .i64 m∧Hid (Mine w0 wr g σ' c vs vl)∧Hid (Cs wr xb ys∧ys.length=28)∧Hid (∀ q,q<m→SesX wr (yt7 wr c wb xb) q (jce σ' q) ys)∧Hid (KeepX xb w5 wr)) (fun i _=>4-(intOf i).toNat)
 case atStart=>exact ⟨0,xs,by omega,rfl,M5,⟨CX5.out,HL.out⟩,fun q hq=>absurd hq (Nat.not_lt_zero _),KeepX.refl _ _⟩
 case round =>
  clear M5 CX5
  obtain ⟨m,ys,hm,rfl,M,CY,SY,KX⟩:=hrel
  have hkx:=KX.out.size
  by_cases hlt:m<4
  ·have hi1:(m:Int)<4:=by omega
   have hi0:(0:Int)≤m:=by omega
   go_wp2_with fail
   refine (jjx σ' c g vs vl _ M.out.st m).mono ?_
   rintro e w6 ⟨u6,rfl,hu6,hb6⟩
   have HU6:=Lib.hid hu6
   obtain ⟨pd,pt,pg,pr,rfl,y1,y2,y3,y4⟩:=hu6
   have HY1:=Lib.hid y1
   have HY2:=Lib.hid y2
   have HY3:=Lib.hid y3
   have HY4:=Lib.hid y4
   obtain ⟨Y,hY⟩:∃ Y,Y=jce σ' m:=⟨_,rfl⟩
   have HYE:=Lib.hid hY
   rw [← hY] at HU6 HY1 HY2 HY3 HY4 y1 y2 y3 y4
   rw [← hY]
   obtain ⟨Xd,xd,e1,-,-⟩:=y1.form
   obtain ⟨Xt,xt,e2,-,-⟩:=y2.form
   obtain ⟨Xg,xg,e3,-,-⟩:=y3.form
   obtain ⟨Xh,xh,e4,-,-⟩:=y4.form
   subst e1 e2 e3 e4
   clear y1 y2 y3 y4 hY
   have CY6:=Lib.hid (CY.out.1.next hb6)
   have hyl:=CY.out.2
   have x0:∃ y,ys[m*7+0]? = some y:=⟨_,List.getElem?_eq_getElem (by omega)⟩
   obtain ⟨z0,x0⟩:=x0
   have r0:w6.cell? ⟨xb,m*7,none⟩=some z0:=CY6.out.at _ x0
   have f0:w6.frozen? ⟨xb,m*7,none⟩=false:=CY6.out.2.2 _ (by omega)
   have x1:∃ y,ys[m*7+1]? = some y:=⟨_,List.getElem?_eq_getElem (by omega)⟩
   obtain ⟨z1,x1⟩:=x1
   have r1:w6.cell? ⟨xb,m*7+1,none⟩=some z1:=CY6.out.at _ x1
   have f1:w6.frozen? ⟨xb,m*7+1,none⟩=false:=CY6.out.2.2 _ (by omega)
   have x2:∃ y,ys[m*7+2]? = some y:=⟨_,List.getElem?_eq_getElem (by omega)⟩
   obtain ⟨z2,x2⟩:=x2
   have r2:w6.cell? ⟨xb,m*7+2,none⟩=some z2:=CY6.out.at _ x2
   have f2:w6.frozen? ⟨xb,m*7+2,none⟩=false:=CY6.out.2.2 _ (by omega)
   have x3:∃ y,ys[m*7+3]? = some y:=⟨_,List.getElem?_eq_getElem (by omega)⟩
   obtain ⟨z3,x3⟩:=x3
   have r3:w6.cell? ⟨xb,m*7+3,none⟩=some z3:=CY6.out.at _ x3
   have f3:w6.frozen? ⟨xb,m*7+3,none⟩=false:=CY6.out.2.2 _ (by omega)
   have x4:∃ y,ys[m*7+4]? = some y:=⟨_,List.getElem?_eq_getElem (by omega)⟩
   obtain ⟨z4,x4⟩:=x4
   have r4:w6.cell? ⟨xb,m*7+4,none⟩=some z4:=CY6.out.at _ x4
   have f4:w6.frozen? ⟨xb,m*7+4,none⟩=false:=CY6.out.2.2 _ (by omega)
   have x5:∃ y,ys[m*7+5]? = some y:=⟨_,List.getElem?_eq_getElem (by omega)⟩
   obtain ⟨z5,x5⟩:=x5
   have r5:w6.cell? ⟨xb,m*7+5,none⟩=some z5:=CY6.out.at _ x5
   have f5:w6.frozen? ⟨xb,m*7+5,none⟩=false:=CY6.out.2.2 _ (by omega)
   have x6:∃ y,ys[m*7+6]? = some y:=⟨_,List.getElem?_eq_getElem (by omega)⟩
   obtain ⟨z6,x6⟩:=x6
   have r6:w6.cell? ⟨xb,m*7+6,none⟩=some z6:=CY6.out.at _ x6
   have f6:w6.frozen? ⟨xb,m*7+6,none⟩=false:=CY6.out.2.2 _ (by omega)
   have M7:=Lib.hid (yup (o:=m*7) (M.out.next hb6) HCX.out hbx (.bool Y.opn) (.bool Y.strict) (.int .i64 Y.frm) (.slice Xd Y.mine.doms.length xd) (.slice Xt Y.mine.tabs.length xt) (.slice Xg Y.gone.length xg) (.slice Xh Y.read.length xh))
   have C7:=Lib.hid (yuz CY6.out (o:=m*7) (by omega) (.bool Y.opn) (.bool Y.strict) (.int .i64 Y.frm) (.slice Xd Y.mine.doms.length xd) (.slice Xt Y.mine.tabs.length xt) (.slice Xg Y.gone.length xg) (.slice Xh Y.read.length xh))
   have hpb:=yua w6 xb (m*7) (.bool Y.opn) (.bool Y.strict) (.int .i64 Y.frm) (.slice Xd Y.mine.doms.length xd) (.slice Xt Y.mine.tabs.length xt) (.slice Xg Y.gone.length xg) (.slice Xh Y.read.length xh)
   have hpz:=yug w6 xb (m*7) (.bool Y.opn) (.bool Y.strict) (.int .i64 Y.frm) (.slice Xd Y.mine.doms.length xd) (.slice Xt Y.mine.tabs.length xt) (.slice Xg Y.gone.length xg) (.slice Xh Y.read.length xh)
   have hpl:=yuv ys (m*7) (.bool Y.opn) (.bool Y.strict) (.int .i64 Y.frm) (.slice Xd Y.mine.doms.length xd) (.slice Xt Y.mine.tabs.length xt) (.slice Xg Y.gone.length xg) (.slice Xh Y.read.length xh)
   have K7:=Lib.hid ((KX.out.next hb6).put (o:=m*7) (.bool Y.opn) (.bool Y.strict) (.int .i64 Y.frm) (.slice Xd Y.mine.doms.length xd) (.slice Xt Y.mine.tabs.length xt) (.slice Xg Y.gone.length xg) (.slice Xh Y.read.length xh))
   have HYL:=Lib.hid hyl
   clear hyl
   have HPL:=Lib.hid hpl
   clear hpl
   go_wp2
   clear r0 f0 x0 r1 f1 x1 r2 f2 x2 r3 f3 x3 r4 f4 x4 r5 f5 x5 r6 f6 x6
   unfold putO at M7 C7 hpb hpz K7
   generalize hw7:((((((w6.setCell ⟨xb,m*7,none⟩ (.bool Y.opn)).setCell ⟨xb,m*7+1,none⟩ (.bool Y.strict)).setCell ⟨xb,m*7+2,none⟩ (.int .i64 Y.frm)).setCell ⟨xb,m*7+3,none⟩ (.slice Xd Y.mine.doms.length xd)).setCell ⟨xb,m*7+4,none⟩ (.slice Xt Y.mine.tabs.length xt)).setCell ⟨xb,m*7+5,none⟩ (.slice Xg Y.gone.length xg)).setCell ⟨xb,m*7+6,none⟩ (.slice Xh Y.read.length xh)=w7 at *
   clear hw7
   have hs6:=hb6.size
   have hwr:=M.out.below.size
   have off:∀ q,From wr.heap.size w6 q→yt7 w7 c wb xb q:=fun q hq=>⟨by rw [hpz];exact hq.2,HCF.out q (by have:=hq.1;omega),by have:=hq.1;omega,by have:=hq.1;omega⟩
   have kp:∀ p:Addr,From wr.heap.size w6 p.block→w7.cell? p=w6.cell? p:=fun p hp=>World.cell?_of_block (hpb _ (by have:=hp.1;omega))
   exact ⟨⟨m+1,_,by omega,by go_num,M7,⟨C7.out,HPL.out.trans HYL.out⟩,fun q hq=>by
    by_cases hqm:q<m
    ·exact (((SY.out q hqm).keep (fun b hb=>(hpb b hb.2.2.2).trans (hb6.block b hb.1)) (fun b hb=>⟨by rw [hpz];have:=hb.1;omega,hb.2⟩)).cells fun j hj=>yux _ _ _ _ _ _ _ (by omega))
    ·obtain rfl:q=m:=by omega
     rw [← HYE.out]
     exact ⟨_,_,_,_,(HY1.out.keep kp).more off,(HY2.out.keep kp).more off,(HY3.out.keep kp).more off,(HY4.out.keep kp).more off,fun j v hj=>yuw _ _ _ _ _ _ _ (by rw [HYL.out];omega) hj⟩,K7⟩,by simp [intOf];omega⟩
  ·have hm4':¬ (m:Int)<4:=by omega
   have SY4:Hid (∀ q,q<4→SesX wr (yt7 wr c wb xb) q (jce σ' q) ys):=fun q hq=>SY.out q (by omega)
   clear SY
   have HSZ:=Lib.hid M.out.below.size
   have CWr:=Lib.hid (CW5.out.keep (KX.out.block wb CW5.out.1 hne) hkx)
   have CAr:=Lib.hid (CA5.out.keep (KX.out.block _ CA5.out.1 (by omega)) hkx)
   have CRr:=Lib.hid (CR5.out.keep (KX.out.block _ CR5.out.1 (by omega)) hkx)
   have COr:=Lib.hid (CO6.out.keep (KX.out.block _ CO6.out.1 (by omega)) hkx)
   have hz35:w3.heap.size<w5.heap.size:=CO6.out.1
   have HSr:Hid (Sl Enc.book wr (From w2.heap.size w3) σ'.states (.slice A3 NN k3)):=HS5.out.keep fun p hp=>World.cell?_of_block (KX.out.block _ (by have:=hp.2;omega) (by have:=hp.1;omega))
   have hW5:W.heap.size<w5.heap.size:=CA5.out.1
   have HWr:Hid (Sl Enc.book wr (yt7 W c wb xb) B (.slice Aw NO kw)):=HW5.out.keep fun p hp=>World.cell?_of_block (KX.out.block _ (by have:=hp.1;omega) hp.2.2.2)
   have HXr:Hid (∀ q,q<4→SesX wr (yt7 W c wb xb) q (jce σ q) xs):=fun q hq=>(HX5.out q hq).keep (fun p hp=>KX.out.block _ (by have:=hp.1;omega) hp.2.2.2) (fun _ h=>h)
   have HJ:Hid (JCm w0 wb xb l (k+1) wr c):=by
    refine ⟨.slice A3 NN k3,ys,?_⟩
    have ew:wasV l (k+1) = σ'.states:=by unfold wasV;rw [if_neg (by omega),HNX.out]
    rw [ew,HNX.out]
    exact { cw:=CWr.out,cx:=CY.out.1,len:=CY.out.2,ne:=hne,cwb:=HCW.out,cxb:=HCX.out,bw:=hbw,bx':=hbx,was:=HSr.out.more fun q hq=>⟨by have:=hq.2;omega,HCF.out q (by have:=hq.1;omega),by have:=hq.1;omega,by have:=hq.1;omega⟩,ses:=SY4.out }
   clear CW5 CA5 CR5 CO6 HS5 HW5 HX5 CWr CY SY4
   by_cases hk0:k=0
   ·have hno:NO=0:=by have:=HNO.out;rw [HB.out,if_pos hk0] at this;exact this
    have hnn:NN=1:=by have:=HNN.out;rw [HF.out hk0] at this;exact this
    clear HB HF hk0
    subst hno hnn
    go_wp2
    go_ret
    exact ⟨rfl,M.out,HJ.out⟩
   ·have hBE:B = σ.states:=by rw [HB.out,if_neg hk0]
    have HBE:=Lib.hid hBE
    clear HB hk0 HF hBE
    have hsl:=jmc σ
    have hnol:NO = σ.last+1:=by rw [HNO.out,HBE.out,hsl]
    have hl39:σ.last≤39:=HI.out.some_
    have HNL:=Lib.hid hnol
    have hno0:((NO:Int) == 0)=false:=by rw [beq_eq_false_iff_ne];omega
    clear hnol hsl
    rcases HCC.out with he | ⟨hk6,hop,hr0,hrn,hst⟩
    ·have hnn:NN=NO:=by rw [HNN.out,he,HNO.out,HBE.out]
     clear he HCC
     subst hnn
     have hee:((NN:Int) == (NN:Int))=true:=by simp
     go_wp2
     go_ret
     exact ⟨rfl,M.out,HJ.out⟩
    ·have HST:=Lib.hid hst
     have HNN1:Hid (NN=NO+1):=by show _=_;rw [HNN.out,hst,List.length_append,HNO.out,HBE.out];rfl
     obtain ⟨hm0,hm4,-⟩:=jd9.1 hop
     obtain ⟨m,rfl⟩:∃ m:Nat,n=m:=⟨n.toNat,by omega⟩
     have hmm:m<4:=by omega
     have hrn':R.n=(NO:Int):=by rw [hrn];have:=HNL.out;omega
     have hn1:NN=NO+1:=HNN1.out
     clear HNN1
     subst hn1
     clear HCC hop hst hrn hm0 hm4
     have a0:=CAr.out.at 0 rfl
     have a1:=CAr.out.at 1 rfl
     have c0:=CRr.out.at 0 rfl
     have c1:=CRr.out.at 1 rfl
     rw [hk6] at a0
     rw [hr0] at c0
     rw [hrn'] at c1
     have HK6:=Lib.hid hk6
     have HR0:=Lib.hid hr0
     have HRN:=Lib.hid hrn'
     clear hk6 hr0 hrn'
     have g0:(((NO+1:Nat):Int) == (NO:Int))=false:=by rw [beq_eq_false_iff_ne];omega
     have g0':((NO:Int)+1 == (NO:Int))=false:=by rw [beq_eq_false_iff_ne];omega
     have g1:((NO:Int)+1 != (NO:Int)+1)=false:=by simp
     have g2:((NO:Int) != (NO:Int))=false:=by simp
     have hno39:NO≤40:=by have:=HNL.out;omega
     have g3:IntKind.i64.wrap ((NO:Int)+1)=(NO:Int)+1:=by rw [IntKind.wrap_i64];omega
     have g4:decide ((m:Int)<0)=false:=decide_eq_false (by omega)
     have g5:decide ((4:Int)≤(m:Int))=false:=decide_eq_false (by omega)
     have g6:decide (4≤m)=false:=decide_eq_false (by omega)
     go_wp2
     clear a0 a1 c0 c1
     go_loopw [74] (fun i wl=>∃ j:Nat,j≤NO∧i = .int .i64 j∧Below wr.heap.size wr wl) (fun i _=>NO-(intOf i).toNat)
     case atStart=>exact ⟨0,Nat.zero_le _,rfl,Below.refl _ _⟩
     case round =>
      rename World=>wl
      obtain ⟨j,hj,rfl,hbl⟩:=hrel
      have hsl:=hbl.size
      have HSl:Hid (Sl Enc.book wl (From w2.heap.size w3) σ'.states (.slice A3 (NO+1) k3)):=HSr.out.keep fun p hp=>hbl.cell (by have:=hp.2;omega)
      have HWl:Hid (Sl Enc.book wl (yt7 W c wb xb) B (.slice Aw NO kw)):=HWr.out.keep fun p hp=>hbl.cell (by have:=hp.1;omega)
      have hbz:=HSZ.out
      by_cases hlt2:j<NO
      ·have hi1:(j:Int)<NO:=by omega
       have hi2:(j:Int)<(NO:Int)+1:=by omega
       have hi0:(0:Int)≤j:=by omega
       obtain ⟨b,o,x,vd,vt,rfl,-,hx,a0,a1,s1,s2⟩:=HWl.out.book_at (k:=j) (by rw [← HNO.out];exact hlt2)
       obtain ⟨b',o',x',vd',vt',rfl,-,hx',a0',a1',s1',s2'⟩:=HSl.out.book_at (k:=j) (by rw [← HNN.out];omega)
       obtain rfl:x'=x:=by
        have e:=hx'.out
        rw [HST.out,List.getElem?_append_left (by rw [← HBE.out,← HNO.out];exact hlt2),← HBE.out,hx.out] at e
        exact (Option.some.inj e).symm
       have hck:Hid ((ja6 x').2.2=0):=jn1 HI.out (List.mem_of_getElem? (by rw [← HBE.out];exact hx.out))
       have HBa:Hid (jar wl (Old wl) x' (.agg #[vd,vt])):=⟨_,_,rfl,s1.more fun q hq=>by have:=hq.1;show q<_;omega,s2.more fun q hq=>by have:=hq.1;show q<_;omega⟩
       have HBb:Hid (jar wl (Old wl) x' (.agg #[vd',vt'])):=⟨_,_,rfl,s1'.more fun q hq=>by have:=hq.2;show q<_;omega,s2'.more fun q hq=>by have:=hq.2;show q<_;omega⟩
       obtain ⟨Ad,cd,rfl,-,-⟩:=s1.form
       obtain ⟨At,ct,rfl,-,-⟩:=s2.form
       obtain ⟨Ad',cd',rfl,-,-⟩:=s1'.form
       obtain ⟨At',ct',rfl,-,-⟩:=s2'.form
       clear s1 s2 s1' s2' hx hx'
       have hbd:Below wl.heap.size wl wl.drew:=(Below.refl _ _).drew
       have HBd:=Lib.hid (HBa.out.onOldB hbd)
       have HBd':=Lib.hid (HBb.out.onOldB hbd)
       have HVd:=Lib.hid (HV.out.next (bx (bx M.out.below hbl) hbd))
       have d0:wl.drew.cell? ⟨b,o+j*2,none⟩=_:=a0
       have d1:wl.drew.cell? ⟨b,o+j*2+1,none⟩=_:=a1
       have d0':wl.drew.cell? ⟨b',o'+j*2,none⟩=_:=a0'
       have d1':wl.drew.cell? ⟨b',o'+j*2+1,none⟩=_:=a1'
       go_wp2_with fail
       go_region_law (first
        | (go_simp;go_at_call 32;refine (jsr x' _ _ _ HBd.out HBd'.out (jh6 (jnn hck.out)) HVd.out).mono ?_;rintro e wz ⟨rfl,hbz'⟩;have hb3:Below wl.heap.size wl wz:=jcw hbz';clear hbz'))
       all_goals
        go_wp2
        exact ⟨⟨j+1,by omega,by go_num,bx hbl hb3⟩,by simp [intOf];omega⟩
      ·have hi1:¬ (j:Int)<NO:=by omega
       clear hj hlt2
       have hnol:=HNL.out
       obtain ⟨b7,o7,V,vvd,vvt,rfl,hS7,hxV,k0,k1,s1,s2⟩:=HSl.out.book_at (k:=NO) (by rw [← HNN.out];omega)
       have HVE:Hid (V=jf0 (σ.ver σ.last) (jce σ m).mine (jce σ m).gone):=by
        show _=_
        have e:=hxV.out
        rw [HST.out,List.getElem?_append_right (by rw [← HBE.out,← HNO.out];exact Nat.le_refl _),← HBE.out,← HNO.out,Nat.sub_self] at e
        exact (Option.some.inj e).symm
       have HVK:Hid ((ja6 V).2.2=0):=jn1 HI'.out (List.mem_of_getElem? hxV.out)
       obtain ⟨b8,o8,L,vld,vlt,rfl,hS8,hxL,k2,k3',s3,s4⟩:=HWl.out.book_at (k:=σ.last) (by rw [← HNO.out];omega)
       obtain rfl:σ.ver σ.last=L:=by
        have e:=hxL.out
        rw [HBE.out] at e
        exact Option.some.inj ((ymz (Nat.le_refl _)).symm.trans e)
       have HBV:Hid (jar wl (Old wl) V (.agg #[vvd,vvt])):=⟨_,_,rfl,s1.more fun q hq=>by have:=hq.2;show q<_;omega,s2.more fun q hq=>by have:=hq.2;show q<_;omega⟩
       have HBL:Hid (jar wl (Old wl) (σ.ver σ.last) (.agg #[vld,vlt])):=⟨_,_,rfl,s3.more fun q hq=>by have:=hq.1;show q<_;omega,s4.more fun q hq=>by have:=hq.1;show q<_;omega⟩
       obtain ⟨Vd,vd,rfl,-,-⟩:=s1.form
       obtain ⟨Vt,vt,rfl,-,-⟩:=s2.form
       obtain ⟨Ld,ld,rfl,-,-⟩:=s3.form
       obtain ⟨Lt,lt,rfl,-,-⟩:=s4.form
       have hSX:=HXr.out m hmm
       have HYO:Hid (SessOk σ.last σ.acts (jce σ m)):=by
        show SessOk _ _ _
        unfold jce
        split
        ·exact HI.out.at _
        ·exact SessOk.zero _ _
       have hac:=HI.out.acts
       obtain ⟨Y,hY⟩:∃ Y,Y=jce σ m:=⟨_,rfl⟩
       rw [← hY] at HVE HYO hSX
       clear hY
       obtain ⟨pd,pt,pg,pr,y1,y2,y3,y4,y5⟩:=hSX
       obtain ⟨Xd,xd,rfl,-,-⟩:=y1.form
       obtain ⟨Xt,xt,rfl,-,-⟩:=y2.form
       obtain ⟨Xg,xg,rfl,-,-⟩:=y3.form
       obtain ⟨Xh,xh,rfl,-,-⟩:=y4.form
       have up:∀ q,yt7 W c wb xb q→q<wr.heap.size:=fun q hq=>by have:=hq.1;omega
       have HSY:Hid (jhb wl (Old wl) Y (.agg #[.bool Y.opn,.bool Y.strict,.int .i64 Y.frm,.slice Xd Y.mine.doms.length xd,.slice Xt Y.mine.tabs.length xt,.slice Xg Y.gone.length xg,.slice Xh Y.read.length xh])):=⟨_,_,_,_,rfl,(y1.keep fun p hp=>hbl.cell (up _ hp)).more fun q hq=>Nat.lt_of_lt_of_le (up q hq) hsl,(y2.keep fun p hp=>hbl.cell (up _ hp)).more fun q hq=>Nat.lt_of_lt_of_le (up q hq) hsl,(y3.keep fun p hp=>hbl.cell (up _ hp)).more fun q hq=>Nat.lt_of_lt_of_le (up q hq) hsl,(y4.keep fun p hp=>hbl.cell (up _ hp)).more fun q hq=>Nat.lt_of_lt_of_le (up q hq) hsl⟩
       have HY5:=Lib.hid y5
       have COl:=Lib.hid (COr.out.next hbl)
       have CAl:=Lib.hid (CAr.out.next hbl)
       have hb7:b7<wl.heap.size:=by have:=hS7.2;omega
       have hb8:b8<wl.heap.size:=by have:=hS8.1;omega
       have K:Hid (∀ w',Below wl.heap.size wl w'→(w'.cell? ⟨b7,o7+NO*2,none⟩=some (.slice Vd V.doms.length vd)∧w'.cell? ⟨b7,o7+NO*2+1,none⟩=some (.slice Vt V.tabs.length vt)∧w'.cell? ⟨b8,o8 + σ.last*2,none⟩=some (.slice Ld (σ.ver σ.last).doms.length ld)∧w'.cell? ⟨b8,o8 + σ.last*2+1,none⟩=some (.slice Lt (σ.ver σ.last).tabs.length lt)∧w'.cell? ⟨W.heap.size,1,none⟩=some (.int .i64 (m:Int))∧w'.cell? ⟨w3.heap.size,m*7,none⟩=some (.bool Y.opn)∧w'.cell? ⟨w3.heap.size,m*7+1,none⟩=some (.bool Y.strict)∧w'.cell? ⟨w3.heap.size,m*7+2,none⟩=some (.int .i64 Y.frm)∧w'.cell? ⟨w3.heap.size,m*7+3,none⟩=some (.slice Xd Y.mine.doms.length xd)∧w'.cell? ⟨w3.heap.size,m*7+4,none⟩=some (.slice Xt Y.mine.tabs.length xt)∧w'.cell? ⟨w3.heap.size,m*7+5,none⟩=some (.slice Xg Y.gone.length xg)∧w'.cell? ⟨w3.heap.size,m*7+6,none⟩=some (.slice Xh Y.read.length xh))):=fun w' h'=>⟨(h'.cell (p:=⟨b7,o7+NO*2,none⟩) hb7).trans k0,(h'.cell (p:=⟨b7,o7+NO*2+1,none⟩) hb7).trans k1,(h'.cell (p:=⟨b8,o8 + σ.last*2,none⟩) hb8).trans k2,(h'.cell (p:=⟨b8,o8 + σ.last*2+1,none⟩) hb8).trans k3',(CAl.out.next h').at 1 rfl,(COl.out.next h').at _ (HY5.out 0 _ rfl),(COl.out.next h').at _ (HY5.out 1 _ rfl),(COl.out.next h').at _ (HY5.out 2 _ rfl),(COl.out.next h').at _ (HY5.out 3 _ rfl),(COl.out.next h').at _ (HY5.out 4 _ rfl),(COl.out.next h').at _ (HY5.out 5 _ rfl),(COl.out.next h').at _ (HY5.out 6 _ rfl)⟩
       have hbd:Below wl.heap.size wl wl.drew:=(Below.refl _ _).drew
       have HVW:=Lib.hid (jor (σ.ver σ.last) Y _ _ wl.drew (Old wl.drew) (HBL.out.onOldB hbd) (HSY.out.keepS (w':=wl.drew) (fun _ _=>rfl)) (fun _ hq=>hq) (jq4 HI.out _) HYO.out.mine ⟨by have:=(jn7 HI.out σ.last).1;omega,by have:=(jn7 HI.out σ.last).2;omega,by have:=HYO.out.ds;omega,by have:=HYO.out.ts;omega⟩)
       rw [← HVE.out] at HVW
       have E0:=Lib.hid (K.out wl (Below.refl _ _))
       have HVl:=Lib.hid (HV.out.next (bx M.out.below hbl))
       have h40:NO≤40:=hno39
       have f0:(NO:Int)<(NO:Int)+1:=by omega
       have f1:(0:Int)≤(NO:Int):=by omega
       have f2:NO<NO+1:=by omega
       have f5:(0:Int)≤(NO:Int)-1:=by omega
       have f6:(NO:Int)-1<(NO:Int):=by omega
       have f7:((NO:Int)-1).toNat = σ.last:=by omega
       have f8:NO-1 = σ.last:=by omega
       have n10:IntKind.i64.wrap ((NO:Int)-1)=(NO:Int)-1:=by rw [IntKind.wrap_i64];omega
       have n6:0<NO:=by omega
       have n8:(1:Int)≤(NO:Int):=by omega
       have hm0':(0:Int)≤(m:Int):=by omega
       have hm1':(m:Int)<4:=by omega
       clear hnol k0 k1 k2 k3' s1 s2 s3 s4 y1 y2 y3 y4 y5 hS7 hS8 hxV hxL up
       go_wp2_with fail
       replace E0:=E0.out
       go_region_held3 (fun w'=>w'.cell? ⟨b7,o7+NO*2,none⟩=some (.slice Vd V.doms.length vd)∧w'.cell? ⟨b7,o7+NO*2+1,none⟩=some (.slice Vt V.tabs.length vt)∧w'.cell? ⟨b8,o8 + σ.last*2,none⟩=some (.slice Ld (σ.ver σ.last).doms.length ld)∧w'.cell? ⟨b8,o8 + σ.last*2+1,none⟩=some (.slice Lt (σ.ver σ.last).tabs.length lt)∧w'.cell? ⟨W.heap.size,1,none⟩=some (.int .i64 (m:Int))∧w'.cell? ⟨w3.heap.size,m*7,none⟩=some (.bool Y.opn)∧w'.cell? ⟨w3.heap.size,m*7+1,none⟩=some (.bool Y.strict)∧w'.cell? ⟨w3.heap.size,m*7+2,none⟩=some (.int .i64 Y.frm)∧w'.cell? ⟨w3.heap.size,m*7+3,none⟩=some (.slice Xd Y.mine.doms.length xd)∧w'.cell? ⟨w3.heap.size,m*7+4,none⟩=some (.slice Xt Y.mine.tabs.length xt)∧w'.cell? ⟨w3.heap.size,m*7+5,none⟩=some (.slice Xg Y.gone.length xg)∧w'.cell? ⟨w3.heap.size,m*7+6,none⟩=some (.slice Xh Y.read.length xh)) (first | exact E0 | exact E1 | exact E2)
        (first
         | (go_at_call 33;refine HVW.out.mono ?_;rintro e wv ⟨u5,rfl,hu5,hbv'⟩;have hbv:Below wl.heap.size wl wv:=jcw hbv';have HU5:Hid (jar wv (Old wv) V u5):=hu5.moreS fun _ hq=>hq.2;obtain ⟨ud,ut,e5,s5,s6⟩:=HU5.out;obtain ⟨Ad5,cd5,e6,-,-⟩:=s5.form;obtain ⟨At5,ct5,e7,-,-⟩:=s6.form;subst e5 e6 e7;have E1:=K.out wv hbv;have HB5:=Lib.hid (HBV.out.onOldB hbv);have HV5:=Lib.hid (HVl.out.next hbv))
         | (go_at_call 32;refine (jsr V _ _ _ HB5.out HU5.out (jh6 (jnn HVK.out)) HV5.out).mono ?_;rintro e wz ⟨rfl,hbz'⟩;have hbvz:Below wl.heap.size wl wz:=bx hbv hbz';have E2:=K.out wz hbvz))
       all_goals
        go_wp2
        go_ret
        exact ⟨rfl,M.out.next (bx hbl hbvz),HJ.out.keep (Fr.below (bx hbl hbvz)) (fun _ _=>rfl)⟩
end Go.Proofs.YthmlndmlnlfhnaaGreatDoor
