import Derived.Deep.RegionHeld3
import Derived.Test.YthmlndmlnlfhnaaGreatDoorKaca305f7
import Derived.Test.YthmlndmlnlfhnaaGreatDoorK398fe79a
import Derived.Test.YthmlndmlnlfhnaaGreatDoorK171834e3
import Derived.Test.YthmlndmlnlfhnaaGreatDoorK1faf3101
set_option maxRecDepth 100000
set_option maxHeartbeats 16000000
namespace Go.Proofs.YthmlndmlnlfhnaaGreatDoor
open Go.RowKit Go.Shelf
theorem jb9.split {α:Type} {E:Enc α} {w:World} {S:Nat→Prop} {x:α} {l:List α} {us:List Value} (h:jb9 E w S (x :: l) us) (hl:us.length=(l.length+1)*E.size) :
  ∃ cs vs,us=cs ++ vs∧E.rd w S x cs∧jb9 E w S l vs∧vs.length=l.length*E.size:=by
 obtain ⟨cs,c1,c2⟩:=h 0 x rfl
 have hcl:=E.len c1
 have e:us.take E.size=cs:=by
  apply List.ext_getElem?
  intro j
  by_cases hj:j<E.size
  ·rw [List.getElem?_take_of_lt hj]
   have:=c2 j cs[j] (List.getElem?_eq_getElem (by omega))
   rw [Nat.zero_mul,Nat.zero_add] at this
   rw [this,List.getElem?_eq_getElem (by omega)]
  ·rw [List.getElem?_eq_none (by rw [List.length_take];omega),List.getElem?_eq_none (by omega)]
 refine ⟨cs,us.drop E.size,by rw [← e,List.take_append_drop],c1,fun i y hy=>?_,by rw [List.length_drop,hl,Nat.add_mul];omega⟩
 obtain ⟨ds,d1,d2⟩:=h (i+1) y (by simpa using hy)
 refine ⟨ds,d1,fun j u hu=>?_⟩
 rw [List.getElem?_drop,← d2 j u hu]
 congr 1
 rw [Nat.add_mul];omega
theorem yau {w:World} {S:Nat→Prop} {l:List DomD}:∀ {us:List Value},jb9 Enc.dom w S l us→us.length=l.length*3→us=l.flatMap ja0:=by
 induction l with
 | nil=>intro us _ hl;exact List.length_eq_zero_iff.1 (by simpa using hl)
 | cons x l ih =>
  intro us h hl
  obtain ⟨cs,vs,rfl,c1,h2,hl2⟩:=h.split hl
  rw [ih h2 hl2,List.flatMap_cons,Enc.dom_rd.1 c1];rfl
theorem yj7 (w:World) (S:Nat→Prop) (l:List DomD):jb9 Enc.dom w S l (l.flatMap ja0):=by
 intro i x hx
 exact ⟨ja0 x,Enc.dom_rd.2 rfl,fun j u hu=>by
  rw [show Enc.dom.size=3 from rfl,jog jll hx (by have:=(List.getElem?_eq_some_iff.1 hu).1;rw [jll] at this;exact this)];exact hu⟩
def jvs (w:World) (S:Nat→Prop) (z:List (TabD × RawT)):Prop:=∀ p∈z,Enc.tab.rd w S p.1 (jbc p.2)
theorem yta {w:World} {S:Nat→Prop} {t:TabD} {cs:List Value} (h:Enc.tab.rd w S t cs):∃ q:RawT,cs=jbc q∧q.1=t.name:=by
 obtain ⟨vi,vr,rfl,h1,h2⟩:=Enc.tab_rd.1 h
 obtain ⟨A,c,rfl,-,-⟩:=h1.form
 obtain ⟨B,d,rfl,-,-⟩:=h2.form
 exact ⟨(t.name,t.pol,t.comp,(A,t.ins.length,c),(B,t.rules.length,d)),rfl,rfl⟩
theorem yav {w:World} {S:Nat→Prop} {l:List TabD}:∀ {us:List Value},jb9 Enc.tab w S l us→us.length=l.length*5→∃ z:List (TabD × RawT),z.map (·.1)=l∧us=(z.map (·.2)).flatMap jbc∧jvs w S z∧∀ p∈z,p.2.1=p.1.name:=by
 induction l with
 | nil=>intro us _ hl;exact ⟨[],rfl,List.length_eq_zero_iff.1 (by simpa using hl),fun _ hp=>by simp at hp,fun _ hp=>by simp at hp⟩
 | cons x l ih =>
  intro us h hl
  obtain ⟨cs,vs,rfl,c1,h2,hl2⟩:=h.split hl
  obtain ⟨z,z1,z2,z3,z4⟩:=ih h2 hl2
  obtain ⟨q,rfl,hq⟩:=yta c1
  refine ⟨(x,q) :: z,by simp [z1],by simp [z2],fun p hp=>?_,fun p hp=>?_⟩
  ·rcases List.mem_cons.1 hp with rfl | hp
   ·exact c1
   ·exact z3 p hp
  ·rcases List.mem_cons.1 hp with rfl | hp
   ·exact hq
   ·exact z4 p hp
theorem yc1 {w:World} {S:Nat→Prop} {z:List (TabD × RawT)} (h:jvs w S z):jb9 Enc.tab w S (z.map (·.1)) ((z.map (·.2)).flatMap jbc):=by
 intro i x hx
 rw [List.getElem?_map] at hx
 obtain ⟨p,hp,rfl⟩:=Option.map_eq_some_iff.1 hx
 exact ⟨jbc p.2,h p (List.mem_of_getElem? hp),fun j u hu=>by
  rw [show Enc.tab.size=5 from rfl,jog jlm (l:=z.map (·.2)) (by rw [List.getElem?_map,hp];rfl) (by have:=(List.getElem?_eq_some_iff.1 hu).1;rw [jlm] at this;exact this)];exact hu⟩
theorem jvs.filter {w:World} {S:Nat→Prop} {z:List (TabD × RawT)} (h:jvs w S z) (p:TabD × RawT→Bool):jvs w S (z.filter p):=fun q hq=>h q (List.mem_filter.1 hq).1
theorem jvs.keep {w w':World} {S:Nat→Prop} {z:List (TabD × RawT)} (h:jvs w S z) (hk:∀ k,S k→w'.heap[k]? = w.heap[k]?):jvs w' S z:=fun q hq=>Enc.tab.keep (h q hq) fun _ hp=>World.cell?_of_block (hk _ hp)
theorem yg4 {z:List (TabD × RawT)} (s:ByteArray):(z.filter fun p=>!jap p.1.name s).map (·.1)=(z.map (·.1)).filter fun t=>!jap t.name s:=by
 rw [List.filter_map];rfl
theorem yg5 {z:List (TabD × RawT)} (hz:∀ p∈z,p.2.1=p.1.name) (s:ByteArray):(z.filter fun p=>!jap p.1.name s).map (·.2)=(z.map (·.2)).filter fun t=>!jap t.1 s:=by
 rw [List.filter_map]
 congr 1
 refine List.filter_congr fun p hp=>?_
 show (!jap p.1.name s) = !jap p.2.1 s
 rw [hz p hp]
theorem yfo (l:List DomD):∀ u∈l.flatMap ja0,u.oneCell'=true:=fun u hu=>by
 obtain ⟨x,_,hx⟩:=List.mem_flatMap.1 hu;exact yd5 x u hx
theorem yfp (l:List RawT):∀ u∈l.flatMap jbc,u.oneCell'=true:=fun u hu=>by
 obtain ⟨x,_,hx⟩:=List.mem_flatMap.1 hu;exact yd7 x u hx
theorem jhl {w:World} {base base' e size n:Nat} {v:Value} {xs:List Value} (h:w.ownsRow base e size v n xs) (hb:base'≤base):w.ownsRow base' e size v n xs:=by
 refine ⟨h.1,?_⟩
 rcases h.2 with h3 | ⟨g,cap,cur,h4,h5,h6⟩
 ·exact .inl h3
 ·exact .inr ⟨g,cap,cur,h4,Nat.le_trans hb h5,h6⟩
def jli (w:World) (base:Nat) (S:Nat→Prop) (b:BookD) (u:Value):Prop :=
 ∃ vd vt,u = .agg #[vd,vt]∧w.ownsRow base 58 3 vd b.doms.length (b.doms.flatMap ja0)∧OwnS Enc.tab w base S 56 vt b.tabs∧∀ k,vd.ownBlock=some k→vt.ownBlock≠some k
theorem jla {fn:Func} {p:Tmp} {tmps:Array Value} {W:World} {b:Nat} {x y:Value} (h:fn.results = #[.cell p 38]) (hp:tmps.getD p undef = .pointer (some ⟨b,0,none⟩)) (ht:Cs W b [x,y]) :
  (results fn tmps).run Tryz.prog W = .ok (.agg #[x,y]) W:=by
 have q0:=ht.at 0 rfl
 have q1:=ht.at 1 rfl
 have hp':tmps[p]?.getD undef = .pointer (some ⟨b,0,none⟩):=by simpa using hp
 simp [results,h,hp',go_sem,q0,q1]
theorem Cs.grownO {w w':World} {b:Nat} {vs:List Value} {r:Option Nat} (h:Cs w b vs) (hg:w.grownBy w' r) (hne:r≠some b):Cs w' b vs:=h.keep (hg.block b h.1 (fun e=>hne e.symm)) hg.size
theorem OwnS.grownO {α:Type} {E:Enc α} {w w':World} {base e:Nat} {S:Nat→Prop} {v:Value} {l:List α} {r:Option Nat} (h:OwnS E w base S e v l) (hg:w.grownBy w' r) (h1:∀ k,v.ownBlock=some k→r≠some k) (h2:∀ k,S k→k<w.heap.size∧r≠some k):OwnS E w' base S e v l :=
 h.keep (fun k hk=>hg.block k (h.lt k hk).2 fun e=>h1 k hk e.symm) (fun k hk=>hg.block k (h2 k hk).1 fun e=>(h2 k hk).2 e.symm)
theorem jk0 (b:BookD) (s:ByteArray) (v:Value) (w:World) (S:Nat→Prop) (h:jar w S b v) (hS:∀ k,S k→k<w.heap.size) (hd:b.doms.length*32≤140737488355328) (ht:b.tabs.length*80≤140737488355328) :
  Calls Tryz.prog 63 #[v,.string s] w fun e w'=>∃ u,e = .returned u∧jli w' w.heap.size S (ja2 b s) u∧Below w.heap.size w w':=by
 obtain ⟨vd,vt,rfl,h1,h2⟩:=h
 obtain ⟨ud,r1,e1⟩:=h1.raw
 obtain ⟨ut,r2,e2⟩:=h2.raw
 have hud:ud=b.doms.flatMap ja0:=yau e1 (by obtain ⟨_,_,_,_,_,_,h,_⟩:=r1;exact h)
 subst hud
 obtain ⟨z,hz1,hz2,hz3,hz4⟩:=yav e2 (by obtain ⟨_,_,_,_,_,_,h,_⟩:=r2;exact h)
 subst hz2
 have hzl:(z.map (·.2)).length=b.tabs.length:=by rw [← hz1];simp
 have H1:=Lib.hid h1
 have H2:=Lib.hid h2
 have R1:=Lib.hid r1
 have R2:=Lib.hid r2
 have Z1:=Lib.hid hz1
 have Z3:=Lib.hid hz3
 have Z4:=Lib.hid hz4
 have HS:=Lib.hid hS
 have ZL:=Lib.hid hzl
 obtain ⟨A,c,rfl,-,-⟩:=h1.form
 obtain ⟨B,d,rfl,-,-⟩:=h2.form
 clear e1 e2 h1 h2 r1 r2 hz1 hz3 hz4 hS hzl
 have hb0:=jac w (.cells #[.slice A b.doms.length c,.slice B b.tabs.length d] 38)
 have C0:=Lib.hid (Cs.new w [.slice A b.doms.length c,.slice B b.tabs.length d] 38)
 have hz0:(w.alloc (.cells #[.slice A b.doms.length c,.slice B b.tabs.length d] 38)).heap.size=w.heap.size+1:=by simp
 change Hid (Cs (w.alloc (.cells #[.slice A b.doms.length c,.slice B b.tabs.length d] 38)) _ _) at C0
 generalize hw0:w.alloc (.cells #[.slice A b.doms.length c,.slice B b.tabs.length d] 38)=w0 at *
 have hb1:=jac w0 (.cells #[.string s] 9)
 have C1:=Lib.hid (Cs.new w0 [.string s] 9)
 have hz1:(w0.alloc (.cells #[.string s] 9)).heap.size=w.heap.size+2:=by simp;omega
 change Hid (Cs (w0.alloc (.cells #[.string s] 9)) _ _) at C1
 rw [hz0] at C1
 have C01:=Lib.hid (C0.out.next hb1)
 have hb01:=bx hb0 hb1
 generalize hw1:w0.alloc (.cells #[.string s] 9)=w1 at *
 have hb2:=jac w1 (.cells #[.slice none 0 0,.slice none 0 0] 38)
 have C2:=Lib.hid (Cs.new w1 [.slice none 0 0,.slice none 0 0] 38)
 have hz2:(w1.alloc (.cells #[.slice none 0 0,.slice none 0 0] 38)).heap.size=w.heap.size+3:=by simp;omega
 change Hid (Cs (w1.alloc (.cells #[.slice none 0 0,.slice none 0 0] 38)) _ _) at C2
 rw [hz1] at C2
 have C02:=Lib.hid (C01.out.next hb2)
 have C12:=Lib.hid (C1.out.next hb2)
 have hb02:=bx hb01 hb2
 generalize hw2:w1.alloc (.cells #[.slice none 0 0,.slice none 0 0] 38)=w2 at *
 have k0:w2.drew.cell? ⟨w.heap.size,0,none⟩=_:=C02.out.at 0 rfl
 have k1:w2.drew.cell? ⟨w.heap.size,0+1,none⟩=_:=C02.out.at 1 rfl
 have R1d:Hid (Raw w2.drew 3 (.slice A b.doms.length c) b.doms.length (b.doms.flatMap ja0)):=H1.out.rawB (w':=w2.drew) R1.out (fun k hk=>hb02.block k (HS.out k hk))
 go_enter Tryz.func63,Tryz.ntmps63
 go_wp2_with fail
 clear hw0 hw1 hw2 C0 C1 C01 hb0 hb1 hb2 hb01
 go_region_held3 (fun w'=>w'.cell? ⟨w.heap.size,0,none⟩=some (.slice A b.doms.length c)∧w'.cell? ⟨w.heap.size,1,none⟩=some (.slice B b.tabs.length d)) (first | exact ⟨k0,k1⟩ | exact ⟨k2,k3⟩ | exact ⟨k4,k5⟩ | exact ⟨k6,k7⟩ | exact ⟨k8,k9⟩ | exact ⟨(m0 _ _).1,(m0 _ _).2⟩)
  (first
  | (go_at_call 75;refine (yal _ _ _ _ R1d.out hd).mono ?_;rintro e w3 ⟨u1,rfl,ho1,hb3'⟩;have hb3:Below w2.heap.size w2 w3:=jcw hb3';have C03:=Lib.hid (C02.out.next hb3);have C13:=Lib.hid (C12.out.next hb3);have C23:=Lib.hid (C2.out.next hb3);have HO1:Hid (w3.ownsRow w2.heap.size 58 3 u1 b.doms.length (b.doms.flatMap ja0)):=ho1;have k2:=C03.out.at 0 rfl;have k3:=C03.out.at 1 rfl;have hl1:=Lib.hid HO1.out.lt;clear ho1 hb3')
  | (go_at_call 104;refine (yg0 b.doms _ w2.heap.size s (w.heap.size+1) _ HO1.out (C13.out.at 0 rfl) (fun e=>by have:=(hl1.out _ e).1;omega)).mono ?_;rintro e w4 ⟨u2,rfl,ho2,hg4,hm4⟩;obtain ⟨A2,c2,rfl,-,-,-⟩:=jah ho2;have C04:=Lib.hid (C03.out.grownO hg4 (fun e=>by have:=(hl1.out _ e).1;omega));have C14:=Lib.hid (C13.out.grownO hg4 (fun e=>by have:=(hl1.out _ e).1;omega));have C24:=Lib.hid (C23.out.grownO hg4 (fun e=>by have:=(hl1.out _ e).1;omega));have HO2:=Lib.hid ho2;have HM4:=Lib.hid hm4;have k4:=C04.out.at 0 rfl;have k5:=C04.out.at 1 rfl;have hb4:Below w.heap.size w w4:=(hb02.trans (hb3.mono hb02.size)).trans (jag hg4 (by have:=hb3.size;omega) (fun k e=>by have:=(hl1.out _ e).1;omega));have R2d:Hid (Raw w4 5 (.slice B b.tabs.length d) b.tabs.length ((z.map (·.2)).flatMap jbc)):=H2.out.rawB (w':=w4) R2.out (fun k hk=>hb4.block k (HS.out k hk));clear ho2 hm4)
  | (go_at_call 107;refine (yjt _ _ _ _ R2d.out ht).mono ?_;rintro e w5 ⟨u3,rfl,ho3,hb5⟩;have C05:=Lib.hid (C04.out.next hb5);have C15:=Lib.hid (C14.out.next hb5);have C25:=Lib.hid (C24.out.next hb5);have HO3:Hid (w5.ownsRow w4.heap.size 56 5 u3 (z.map (·.2)).length ((z.map (·.2)).flatMap jbc)):=ZL.out.symm ▸ ho3;have k6:=C05.out.at 0 rfl;have k7:=C05.out.at 1 rfl;have hl3:=Lib.hid HO3.out.lt;have hs4:=hg4.size;have hs3:=hb3.size;clear ho3)
  | (go_at_call 106;refine (yg1 (z.map (·.2)) _ w4.heap.size s (w.heap.size+1) _ HO3.out (C15.out.at 0 rfl) (fun e=>by have:=(hl3.out _ e).1;omega)).mono ?_;rintro e w6 ⟨u4,rfl,ho4,hg6,hm6⟩;obtain ⟨A4,c4,rfl,-,-,-⟩:=jah ho4;have C06:=Lib.hid (C05.out.grownO hg6 (fun e=>by have:=(hl3.out _ e).1;omega));have C26:=Lib.hid (C25.out.grownO hg6 (fun e=>by have:=(hl3.out _ e).1;omega));have HO4:=Lib.hid ho4;have HM6:=Lib.hid hm6;have k8:=C06.out.at 0 rfl;have k9:=C06.out.at 1 rfl;have r0:=C26.out.at 0 rfl;have r1:=C26.out.at 1 rfl;have f0:=C26.out.2.2 0 (by decide);have f1:=C26.out.2.2 1 (by decide);have m0:∀ x y,((w6.setCell ⟨w.heap.size+2,0,none⟩ x).setCell ⟨w.heap.size+2,1,none⟩ y).cell? ⟨w.heap.size,0,none⟩=some (.slice A b.doms.length c)∧((w6.setCell ⟨w.heap.size+2,0,none⟩ x).setCell ⟨w.heap.size+2,1,none⟩ y).cell? ⟨w.heap.size,1,none⟩=some (.slice B b.tabs.length d):=fun x y=>⟨by rw [World.cell?_setCell_other _ _ _ _ (by simp),World.cell?_setCell_other _ _ _ _ (by simp)];exact k8,by rw [World.cell?_setCell_other _ _ _ _ (by simp),World.cell?_setCell_other _ _ _ _ (by simp)];exact k9⟩;clear ho4 hm6))
 all_goals
  have hs6:=hg6.size
  have hs5:=hb5.size
  have hne:∀ k,(Value.slice A2 (List.filter (fun x=>!jap x.fst s) b.doms).length c2).ownBlock=some k→k<w4.heap.size∧w2.heap.size≤k:=fun k hk=>⟨(HO2.out.lt k hk).2,(HO2.out.lt k hk).1⟩
  have hb6:Below w.heap.size w w6:=(hb4.trans (hb5.mono (by omega))).trans (jag hg6 (by omega) (fun k e=>by have:=(hl3.out _ e).1;omega))
  have hO2:w6.ownsRow w2.heap.size 58 3 (Value.slice A2 (List.filter (fun x=>!jap x.fst s) b.doms).length c2) (List.filter (fun x=>!jap x.fst s) b.doms).length ((List.filter (fun x=>!jap x.fst s) b.doms).flatMap ja0):=ja1 HO2.out (fun k hk=>(hg6.block k (by have:=(hne k hk).1;omega) (fun e=>by have:=(hl3.out _ e.symm).1;have:=(hne k hk).1;omega)).trans (hb5.block k (hne k hk).1))
  have hO4:=HO4.out
  have hapart:∀ k,(Value.slice A2 (List.filter (fun x=>!jap x.fst s) b.doms).length c2).ownBlock=some k→(Value.slice A4 (List.filter (fun x=>!jap x.fst s) (List.map (fun x=>x.snd) z)).length c4).ownBlock≠some k:=fun k hk e=>by have:=(hO4.lt k e).1;have:=(hne k hk).1;omega
  go_wp2
  refine bodyPost_ret (jla (b:=w.heap.size+2) rfl rfl ((C26.out.set 0 (by simp) _).set 1 (by simp) _)) rfl ⟨_,rfl,⟨_,_,rfl,?_,?_,hapart⟩,(hb6.setCell (by simp) _).setCell (by simp) _⟩
  ·have h7:=ja1 (w':=(w6.setCell ⟨w.heap.size+2,0,none⟩ (Value.slice A2 (List.filter (fun x=>!jap x.fst s) b.doms).length c2)).setCell ⟨w.heap.size+2,1,none⟩ (Value.slice A4 (List.filter (fun x=>!jap x.fst s) (List.map (fun x=>x.snd) z)).length c4)) hO2 (fun k hk=>by
    have:=(hne k hk).2
    rw [RowKit.Below.heap_setCell _ _ _ _ (show k≠w.heap.size+2 by omega),RowKit.Below.heap_setCell _ _ _ _ (show k≠w.heap.size+2 by omega)])
   exact jhl h7 (by omega)
  ·have h7:=ja1 (w':=(w6.setCell ⟨w.heap.size+2,0,none⟩ (Value.slice A2 (List.filter (fun x=>!jap x.fst s) b.doms).length c2)).setCell ⟨w.heap.size+2,1,none⟩ (Value.slice A4 (List.filter (fun x=>!jap x.fst s) (List.map (fun x=>x.snd) z)).length c4)) hO4 (fun k hk=>by
    have:=(hO4.lt k hk).1
    rw [RowKit.Below.heap_setCell _ _ _ _ (show k≠w.heap.size+2 by omega),RowKit.Below.heap_setCell _ _ _ _ (show k≠w.heap.size+2 by omega)])
   have hz:jvs ((w6.setCell ⟨w.heap.size+2,0,none⟩ (Value.slice A2 (List.filter (fun x=>!jap x.fst s) b.doms).length c2)).setCell ⟨w.heap.size+2,1,none⟩ (Value.slice A4 (List.filter (fun x=>!jap x.fst s) (List.map (fun x=>x.snd) z)).length c4)) S (z.filter fun p=>!jap p.1.name s):=(Z3.out.filter _).keep (fun k hk=>by
    have:=HS.out k hk
    rw [RowKit.Below.heap_setCell _ _ _ _ (show k≠w.heap.size+2 by omega),RowKit.Below.heap_setCell _ _ _ _ (show k≠w.heap.size+2 by omega)]
    exact hb6.block k this)
   have he:=yc1 hz
   have e1:(z.filter fun p=>!jap p.1.name s).map (·.1)=(ja2 b s).tabs:=by rw [yg4,Z1.out];rfl
   have e2:=yg5 Z4.out s
   rw [e1,e2] at he
   have el:(List.filter (fun x=>!jap x.fst s) (List.map (fun x=>x.snd) z)).length=(ja2 b s).tabs.length:=by rw [← e2,← e1];simp
   refine ⟨_,?_,he⟩
   rw [← el]
   exact jhl h7 (by omega)
end Go.Proofs.YthmlndmlnlfhnaaGreatDoor
