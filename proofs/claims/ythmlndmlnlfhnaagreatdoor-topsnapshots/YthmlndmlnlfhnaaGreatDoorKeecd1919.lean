import Derived.Deep.RegionHeld3
import Derived.Test.YthmlndmlnlfhnaaGreatDoorKb23be907
import Derived.Test.YthmlndmlnlfhnaaGreatDoorK11fc8bdf
import Derived.Test.YthmlndmlnlfhnaaGreatDoorKd42784e5
import Derived.Test.YthmlndmlnlfhnaaGreatDoorK1e100a8b
import Derived.Test.YthmlndmlnlfhnaaGreatDoorK0fe30175
import Derived.Test.YthmlndmlnlfhnaaGreatDoorK8116ccd3
set_option maxRecDepth 100000
set_option maxHeartbeats 16000000
namespace Go.Proofs.YthmlndmlnlfhnaaGreatDoor
open Go.Lib (hid)
open Go.RowKit Go.Shelf
theorem jb9.split {α:Type} {E:Enc α} {w:World} {S:Nat→Prop} {x:α} {l:List α} {us:List Value} (h:jb9 E w S (x :: l) us) (hl:us.length=(l.length+1)*E.size) :
  ∃ cs vs,us=cs ++ vs∧E.rd w S x cs∧jb9 E w S l vs∧vs.length=l.length*E.size:=by
 obtain ⟨cs,c1,c2⟩:=h 0 x rfl;have hcl:=E.len c1;have e:us.take E.size=cs:=by
  apply List.ext_getElem?;intro j;by_cases hj:j<E.size
  ·rw [List.getElem?_take_of_lt hj];have:=c2 j cs[j] (List.getElem?_eq_getElem (by omega))
   rw [Nat.zero_mul,Nat.zero_add] at this;rw [this,List.getElem?_eq_getElem (by omega)]
  ·rw [List.getElem?_eq_none (by rw [List.length_take];omega),List.getElem?_eq_none (by omega)]
 refine ⟨cs,us.drop E.size,by rw [← e,List.take_append_drop],c1,fun i y hy=>?_,by rw [List.length_drop,hl,Nat.add_mul];omega⟩;obtain ⟨ds,d1,d2⟩:=h (i+1) y (by simpa using hy);refine ⟨ds,d1,fun j u hu=>?_⟩;rw [List.getElem?_drop,← d2 j u hu]
 congr 1
 rw [Nat.add_mul];omega
theorem yau {w:World} {S:Nat→Prop} {l:List DomD}:∀ {us:List Value},jb9 Enc.dom w S l us→us.length=l.length*3→us=l.flatMap ja0:=by
 induction l with
 | nil=>intro us _ hl;exact List.length_eq_zero_iff.1 (by simpa using hl)
 | cons x l ih =>
  intro us h hl;obtain ⟨cs,vs,rfl,c1,h2,hl2⟩:=h.split hl;rw [ih h2 hl2,List.flatMap_cons,Enc.dom_rd.1 c1];rfl
theorem yj7 (w:World) (S:Nat→Prop) (l:List DomD):jb9 Enc.dom w S l (l.flatMap ja0):=by
 intro i x hx;exact ⟨ja0 x,Enc.dom_rd.2 rfl,fun j u hu=>by
  rw [show Enc.dom.size=3 from rfl,jog jll hx (by have:=(List.getElem?_eq_some_iff.1 hu).1;rw [jll] at this;exact this)];exact hu⟩
def jvs (w:World) (S:Nat→Prop) (z:List (TabD × RawT)):Prop:=∀ p∈z,Enc.tab.rd w S p.1 (jbc p.2)
theorem yta {w:World} {S:Nat→Prop} {t:TabD} {cs:List Value} (h:Enc.tab.rd w S t cs):∃ q:RawT,cs=jbc q∧q.1=t.name:=by
 obtain ⟨vi,vr,rfl,h1,h2⟩:=Enc.tab_rd.1 h;obtain ⟨A,c,rfl,-,-⟩:=h1.form;obtain ⟨B,d,rfl,-,-⟩:=h2.form;exact ⟨(t.name,t.pol,t.comp,(A,t.ins.length,c),(B,t.rules.length,d)),rfl,rfl⟩
theorem yav {w:World} {S:Nat→Prop} {l:List TabD}:∀ {us:List Value},jb9 Enc.tab w S l us→us.length=l.length*5→∃ z:List (TabD × RawT),z.map (·.1)=l∧us=(z.map (·.2)).flatMap jbc∧jvs w S z∧∀ p∈z,p.2.1=p.1.name:=by
 induction l with
 | nil=>intro us _ hl;exact ⟨[],rfl,List.length_eq_zero_iff.1 (by simpa using hl),fun _ hp=>by simp at hp,fun _ hp=>by simp at hp⟩
 | cons x l ih =>
  intro us h hl;obtain ⟨cs,vs,rfl,c1,h2,hl2⟩:=h.split hl;obtain ⟨z,z1,z2,z3,z4⟩:=ih h2 hl2;obtain ⟨q,rfl,hq⟩:=yta c1;refine ⟨(x,q) :: z,by simp [z1],by simp [z2],fun p hp=>?_,fun p hp=>?_⟩
  ·rcases List.mem_cons.1 hp with rfl | hp
   ·exact c1
   ·exact z3 p hp
  ·rcases List.mem_cons.1 hp with rfl | hp
   ·exact hq
   ·exact z4 p hp
theorem yc1 {w:World} {S:Nat→Prop} {z:List (TabD × RawT)} (h:jvs w S z):jb9 Enc.tab w S (z.map (·.1)) ((z.map (·.2)).flatMap jbc):=by
 intro i x hx;rw [List.getElem?_map] at hx;obtain ⟨p,hp,rfl⟩:=Option.map_eq_some_iff.1 hx;exact ⟨jbc p.2,h p (List.mem_of_getElem? hp),fun j u hu=>by
  rw [show Enc.tab.size=5 from rfl,jog jlm (l:=z.map (·.2)) (by rw [List.getElem?_map,hp];rfl) (by have:=(List.getElem?_eq_some_iff.1 hu).1;rw [jlm] at this;exact this)];exact hu⟩
theorem jvs.filter {w:World} {S:Nat→Prop} {z:List (TabD × RawT)} (h:jvs w S z) (p:TabD × RawT→Bool):jvs w S (z.filter p):=fun q hq=>h q (List.mem_filter.1 hq).1
theorem jvs.keep {w w':World} {S:Nat→Prop} {z:List (TabD × RawT)} (h:jvs w S z) (hk:∀ k,S k→w'.heap[k]? = w.heap[k]?):jvs w' S z:=fun q hq=>Enc.tab.keep (h q hq) fun _ hp=>World.cell?_of_block (hk _ hp)
theorem yg4 {z:List (TabD × RawT)} (s:ByteArray):(z.filter fun p=>!jap p.1.name s).map (·.1)=(z.map (·.1)).filter fun t=>!jap t.name s:=by
 rw [List.filter_map];rfl
theorem yg5 {z:List (TabD × RawT)} (hz:∀ p∈z,p.2.1=p.1.name) (s:ByteArray):(z.filter fun p=>!jap p.1.name s).map (·.2)=(z.map (·.2)).filter fun t=>!jap t.1 s:=by
 rw [List.filter_map]
 congr 1
 refine List.filter_congr fun p hp=>?_
 show (!jap p.1.name s) = !jap p.2.1 s
 rw [hz p hp]
theorem yfo (l:List DomD):∀ u∈l.flatMap ja0,u.oneCell'=true:=fun u hu=>by
 obtain ⟨x,_,hx⟩:=List.mem_flatMap.1 hu;exact yd5 x u hx
theorem yfp (l:List RawT):∀ u∈l.flatMap jbc,u.oneCell'=true:=fun u hu=>by
 obtain ⟨x,_,hx⟩:=List.mem_flatMap.1 hu;exact yd7 x u hx
theorem jhl {w:World} {base base' e size n:Nat} {v:Value} {xs:List Value} (h:w.ownsRow base e size v n xs) (hb:base'≤base):w.ownsRow base' e size v n xs:=by
 refine ⟨h.1,?_⟩;rcases h.2 with h3 | ⟨g,cap,cur,h4,h5,h6⟩
 ·exact .inl h3
 ·exact .inr ⟨g,cap,cur,h4,Nat.le_trans hb h5,h6⟩
def jli (w:World) (base:Nat) (S:Nat→Prop) (b:BookD) (u:Value):Prop :=
 ∃ vd vt,u = .agg #[vd,vt]∧w.ownsRow base 58 3 vd b.doms.length (b.doms.flatMap ja0)∧OwnS Enc.tab w base S 56 vt b.tabs∧∀ k,vd.ownBlock=some k→vt.ownBlock≠some k
theorem jla {fn:Func} {p:Tmp} {tmps:Array Value} {W:World} {b:Nat} {x y:Value} (h:fn.results = #[.cell p 38]) (hp:tmps.getD p undef = .pointer (some ⟨b,0,none⟩)) (ht:Cs W b [x,y]) :
  (results fn tmps).run Tryz.prog W = .ok (.agg #[x,y]) W:=by
 have q0:=ht.at 0 rfl;have q1:=ht.at 1 rfl;have hp':tmps[p]?.getD undef = .pointer (some ⟨b,0,none⟩):=by simpa using hp
 simp [results,h,hp',go_sem,q0,q1]
theorem Cs.grownO {w w':World} {b:Nat} {vs:List Value} {r:Option Nat} (h:Cs w b vs) (hg:w.grownBy w' r) (hne:r≠some b):Cs w' b vs:=h.keep (hg.block b h.1 (fun e=>hne e.symm)) hg.size
theorem OwnS.grownO {α:Type} {E:Enc α} {w w':World} {base e:Nat} {S:Nat→Prop} {v:Value} {l:List α} {r:Option Nat} (h:OwnS E w base S e v l) (hg:w.grownBy w' r) (h1:∀ k,v.ownBlock=some k→r≠some k) (h2:∀ k,S k→k<w.heap.size∧r≠some k):OwnS E w' base S e v l :=
 h.keep (fun k hk=>hg.block k (h.lt k hk).2 fun e=>h1 k hk e.symm) (fun k hk=>hg.block k (h2 k hk).1 fun e=>(h2 k hk).2 e.symm)
theorem jk0 (b:BookD) (s:ByteArray) (v:Value) (w:World) (S:Nat→Prop) (h:jar w S b v) (hS:∀ k,S k→k<w.heap.size) (hd:b.doms.length*32≤140737488355328) (ht:b.tabs.length*80≤140737488355328) :
  Calls Tryz.prog 63 #[v,.string s] w fun e w'=>∃ u,e = .returned u∧jli w' w.heap.size S (ja2 b s) u∧Below w.heap.size w w':=by
 obtain ⟨vd,vt,rfl,h1,h2⟩:=h;obtain ⟨ud,r1,e1⟩:=h1.raw;obtain ⟨ut,r2,e2⟩:=h2.raw;have hud:ud=b.doms.flatMap ja0:=yau e1 (by obtain ⟨_,_,_,_,_,_,h,_⟩:=r1;exact h);subst hud;obtain ⟨z,hz1,hz2,hz3,hz4⟩:=yav e2 (by obtain ⟨_,_,_,_,_,_,h,_⟩:=r2;exact h);subst hz2;have hzl:(z.map (·.2)).length=b.tabs.length:=by rw [← hz1];simp
 have H1:=hid h1;have H2:=hid h2;have R1:=hid r1;have R2:=hid r2;have Z1:=hid hz1;have Z3:=hid hz3;have Z4:=hid hz4;have HS:=hid hS;have ZL:=hid hzl;obtain ⟨A,c,rfl,-,-⟩:=h1.form;obtain ⟨B,d,rfl,-,-⟩:=h2.form;clear e1 e2 h1 h2 r1 r2 hz1 hz3 hz4 hS hzl;have hb0:=jac w (.cells #[.slice A b.doms.length c,.slice B b.tabs.length d] 38);have C0:=hid (Cs.new w [.slice A b.doms.length c,.slice B b.tabs.length d] 38);have hz0:(w.alloc (.cells #[.slice A b.doms.length c,.slice B b.tabs.length d] 38)).heap.size=w.heap.size+1:=by simp
 change Hid (Cs (w.alloc (.cells #[.slice A b.doms.length c,.slice B b.tabs.length d] 38)) _ _) at C0;generalize hw0:w.alloc (.cells #[.slice A b.doms.length c,.slice B b.tabs.length d] 38)=w0 at *;have hb1:=jac w0 (.cells #[.string s] 9);have C1:=hid (Cs.new w0 [.string s] 9);have hz1:(w0.alloc (.cells #[.string s] 9)).heap.size=w.heap.size+2:=by simp;omega
 change Hid (Cs (w0.alloc (.cells #[.string s] 9)) _ _) at C1;rw [hz0] at C1;have C01:=hid (C0.out.next hb1);have hb01:=bx hb0 hb1;generalize hw1:w0.alloc (.cells #[.string s] 9)=w1 at *;have hb2:=jac w1 (.cells #[.slice none 0 0,.slice none 0 0] 38);have C2:=hid (Cs.new w1 [.slice none 0 0,.slice none 0 0] 38);have hz2:(w1.alloc (.cells #[.slice none 0 0,.slice none 0 0] 38)).heap.size=w.heap.size+3:=by simp;omega
 change Hid (Cs (w1.alloc (.cells #[.slice none 0 0,.slice none 0 0] 38)) _ _) at C2;rw [hz1] at C2;have C02:=hid (C01.out.next hb2);have C12:=hid (C1.out.next hb2);have hb02:=bx hb01 hb2;generalize hw2:w1.alloc (.cells #[.slice none 0 0,.slice none 0 0] 38)=w2 at *;have k0:w2.drew.cell? ⟨w.heap.size,0,none⟩=_:=C02.out.at 0 rfl;have k1:w2.drew.cell? ⟨w.heap.size,0+1,none⟩=_:=C02.out.at 1 rfl;have R1d:Hid (Raw w2.drew 3 (.slice A b.doms.length c) b.doms.length (b.doms.flatMap ja0)):=H1.out.rawB (w':=w2.drew) R1.out (fun k hk=>hb02.block k (HS.out k hk));go_enter Tryz.func63,Tryz.ntmps63
 go_wp2_with fail
 clear hw0 hw1 hw2 C0 C1 C01 hb0 hb1 hb2 hb01;go_region_held3 (fun w'=>w'.cell? ⟨w.heap.size,0,none⟩=some (.slice A b.doms.length c)∧w'.cell? ⟨w.heap.size,1,none⟩=some (.slice B b.tabs.length d)) (first | exact ⟨k0,k1⟩ | exact ⟨k2,k3⟩ | exact ⟨k4,k5⟩ | exact ⟨k6,k7⟩ | exact ⟨k8,k9⟩ | exact ⟨(m0 _ _).1,(m0 _ _).2⟩)
  (first
  | (go_at_call 75;refine (yal _ _ _ _ R1d.out hd).mono ?_;rintro e w3 ⟨u1,rfl,ho1,hb3'⟩;have hb3:Below w2.heap.size w2 w3:=jcw hb3';have C03:=hid (C02.out.next hb3);have C13:=hid (C12.out.next hb3);have C23:=hid (C2.out.next hb3);have HO1:Hid (w3.ownsRow w2.heap.size 58 3 u1 b.doms.length (b.doms.flatMap ja0)):=ho1;have k2:=C03.out.at 0 rfl;have k3:=C03.out.at 1 rfl;have hl1:=hid HO1.out.lt;clear ho1 hb3')
  | (go_at_call 104;refine (yg0 b.doms _ w2.heap.size s (w.heap.size+1) _ HO1.out (C13.out.at 0 rfl) (fun e=>by have:=(hl1.out _ e).1;omega)).mono ?_;rintro e w4 ⟨u2,rfl,ho2,hg4,hm4⟩;obtain ⟨A2,c2,rfl,-,-,-⟩:=jah ho2;have C04:=hid (C03.out.grownO hg4 (fun e=>by have:=(hl1.out _ e).1;omega));have C14:=hid (C13.out.grownO hg4 (fun e=>by have:=(hl1.out _ e).1;omega));have C24:=hid (C23.out.grownO hg4 (fun e=>by have:=(hl1.out _ e).1;omega));have HO2:=hid ho2;have HM4:=hid hm4;have k4:=C04.out.at 0 rfl;have k5:=C04.out.at 1 rfl;have hb4:Below w.heap.size w w4:=(hb02.trans (hb3.mono hb02.size)).trans (jag hg4 (by have:=hb3.size;omega) (fun k e=>by have:=(hl1.out _ e).1;omega));have R2d:Hid (Raw w4 5 (.slice B b.tabs.length d) b.tabs.length ((z.map (·.2)).flatMap jbc)):=H2.out.rawB (w':=w4) R2.out (fun k hk=>hb4.block k (HS.out k hk));clear ho2 hm4)
  | (go_at_call 107;refine (yjt _ _ _ _ R2d.out ht).mono ?_;rintro e w5 ⟨u3,rfl,ho3,hb5⟩;have C05:=hid (C04.out.next hb5);have C15:=hid (C14.out.next hb5);have C25:=hid (C24.out.next hb5);have HO3:Hid (w5.ownsRow w4.heap.size 56 5 u3 (z.map (·.2)).length ((z.map (·.2)).flatMap jbc)):=ZL.out.symm ▸ ho3;have k6:=C05.out.at 0 rfl;have k7:=C05.out.at 1 rfl;have hl3:=hid HO3.out.lt;have hs4:=hg4.size;have hs3:=hb3.size;clear ho3)
  | (go_at_call 106;refine (yg1 (z.map (·.2)) _ w4.heap.size s (w.heap.size+1) _ HO3.out (C15.out.at 0 rfl) (fun e=>by have:=(hl3.out _ e).1;omega)).mono ?_;rintro e w6 ⟨u4,rfl,ho4,hg6,hm6⟩;obtain ⟨A4,c4,rfl,-,-,-⟩:=jah ho4;have C06:=hid (C05.out.grownO hg6 (fun e=>by have:=(hl3.out _ e).1;omega));have C26:=hid (C25.out.grownO hg6 (fun e=>by have:=(hl3.out _ e).1;omega));have HO4:=hid ho4;have HM6:=hid hm6;have k8:=C06.out.at 0 rfl;have k9:=C06.out.at 1 rfl;have r0:=C26.out.at 0 rfl;have r1:=C26.out.at 1 rfl;have f0:=C26.out.2.2 0 (by decide);have f1:=C26.out.2.2 1 (by decide);have m0:∀ x y,((w6.setCell ⟨w.heap.size+2,0,none⟩ x).setCell ⟨w.heap.size+2,1,none⟩ y).cell? ⟨w.heap.size,0,none⟩=some (.slice A b.doms.length c)∧((w6.setCell ⟨w.heap.size+2,0,none⟩ x).setCell ⟨w.heap.size+2,1,none⟩ y).cell? ⟨w.heap.size,1,none⟩=some (.slice B b.tabs.length d):=fun x y=>⟨by rw [World.cell?_setCell_other _ _ _ _ (by simp),World.cell?_setCell_other _ _ _ _ (by simp)];exact k8,by rw [World.cell?_setCell_other _ _ _ _ (by simp),World.cell?_setCell_other _ _ _ _ (by simp)];exact k9⟩;clear ho4 hm6))
 all_goals
  have hs6:=hg6.size;have hs5:=hb5.size;have hne:∀ k,(Value.slice A2 (List.filter (fun x=>!jap x.fst s) b.doms).length c2).ownBlock=some k→k<w4.heap.size∧w2.heap.size≤k:=fun k hk=>⟨(HO2.out.lt k hk).2,(HO2.out.lt k hk).1⟩;have hb6:Below w.heap.size w w6:=(hb4.trans (hb5.mono (by omega))).trans (jag hg6 (by omega) (fun k e=>by have:=(hl3.out _ e).1;omega));have hO2:w6.ownsRow w2.heap.size 58 3 (Value.slice A2 (List.filter (fun x=>!jap x.fst s) b.doms).length c2) (List.filter (fun x=>!jap x.fst s) b.doms).length ((List.filter (fun x=>!jap x.fst s) b.doms).flatMap ja0):=ja1 HO2.out (fun k hk=>(hg6.block k (by have:=(hne k hk).1;omega) (fun e=>by have:=(hl3.out _ e.symm).1;have:=(hne k hk).1;omega)).trans (hb5.block k (hne k hk).1));have hO4:=HO4.out;have hapart:∀ k,(Value.slice A2 (List.filter (fun x=>!jap x.fst s) b.doms).length c2).ownBlock=some k→(Value.slice A4 (List.filter (fun x=>!jap x.fst s) (List.map (fun x=>x.snd) z)).length c4).ownBlock≠some k:=fun k hk e=>by have:=(hO4.lt k e).1;have:=(hne k hk).1;omega
  go_wp2;refine bodyPost_ret (jla (b:=w.heap.size+2) rfl rfl ((C26.out.set 0 (by simp) _).set 1 (by simp) _)) rfl ⟨_,rfl,⟨_,_,rfl,?_,?_,hapart⟩,(hb6.setCell (by simp) _).setCell (by simp) _⟩
  ·have h7:=ja1 (w':=(w6.setCell ⟨w.heap.size+2,0,none⟩ (Value.slice A2 (List.filter (fun x=>!jap x.fst s) b.doms).length c2)).setCell ⟨w.heap.size+2,1,none⟩ (Value.slice A4 (List.filter (fun x=>!jap x.fst s) (List.map (fun x=>x.snd) z)).length c4)) hO2 (fun k hk=>by
    have:=(hne k hk).2
    rw [RowKit.Below.heap_setCell _ _ _ _ (show k≠w.heap.size+2 by omega),RowKit.Below.heap_setCell _ _ _ _ (show k≠w.heap.size+2 by omega)])
   exact jhl h7 (by omega)
  ·have h7:=ja1 (w':=(w6.setCell ⟨w.heap.size+2,0,none⟩ (Value.slice A2 (List.filter (fun x=>!jap x.fst s) b.doms).length c2)).setCell ⟨w.heap.size+2,1,none⟩ (Value.slice A4 (List.filter (fun x=>!jap x.fst s) (List.map (fun x=>x.snd) z)).length c4)) hO4 (fun k hk=>by
    have:=(hO4.lt k hk).1
    rw [RowKit.Below.heap_setCell _ _ _ _ (show k≠w.heap.size+2 by omega),RowKit.Below.heap_setCell _ _ _ _ (show k≠w.heap.size+2 by omega)])
   have hz:jvs ((w6.setCell ⟨w.heap.size+2,0,none⟩ (Value.slice A2 (List.filter (fun x=>!jap x.fst s) b.doms).length c2)).setCell ⟨w.heap.size+2,1,none⟩ (Value.slice A4 (List.filter (fun x=>!jap x.fst s) (List.map (fun x=>x.snd) z)).length c4)) S (z.filter fun p=>!jap p.1.name s):=(Z3.out.filter _).keep (fun k hk=>by
    have:=HS.out k hk
    rw [RowKit.Below.heap_setCell _ _ _ _ (show k≠w.heap.size+2 by omega),RowKit.Below.heap_setCell _ _ _ _ (show k≠w.heap.size+2 by omega)];exact hb6.block k this)
   have he:=yc1 hz;have e1:(z.filter fun p=>!jap p.1.name s).map (·.1)=(ja2 b s).tabs:=by rw [yg4,Z1.out];rfl
   have e2:=yg5 Z4.out s;rw [e1,e2] at he;have el:(List.filter (fun x=>!jap x.fst s) (List.map (fun x=>x.snd) z)).length=(ja2 b s).tabs.length:=by rw [← e2,← e1];simp
   refine ⟨_,?_,he⟩;rw [← el];exact jhl h7 (by omega)
open Go.Lib (hid)
open Go.RowKit Go.Shelf
theorem yqb {z:List (TabD × RawT)} (hz:∀ p∈z,p.2.1=p.1.name):jdc (fun x:RawT=>x.1) (z.map (·.2))=jdc (·.name) (z.map (·.1)):=by
 have:jdc (fun x:RawT=>x.1) (z.map (·.2))=true↔jdc (·.name) (z.map (·.1))=true:=by
  rw [jlb,jlb,List.pairwise_map,List.pairwise_map];constructor
  ·intro h;exact h.imp_of_mem fun ha hb hx=>by simpa only [hz _ ha,hz _ hb] using hx
  ·intro h;exact h.imp_of_mem fun ha hb hx=>by simpa only [hz _ ha,hz _ hb] using hx
 cases h1:jdc (fun x:RawT=>x.1) (z.map (·.2)) <;> cases h2:jdc (·.name) (z.map (·.1)) <;> simp_all
theorem yr9 {z:List (TabD × RawT)} (hz:∀ p∈z,p.2.1=p.1.name) (s:ByteArray):posF (fun x:RawT=>x.1) (z.map (·.2)) s=posF (·.name) (z.map (·.1)) s:=by
 unfold posF;rw [List.takeWhile_map,List.takeWhile_map,List.length_map,List.length_map]
 congr 1
 induction z with
 | nil=>rfl
 | cons p z ih =>
  have e:ltS p.2.1 s=ltS p.1.name s:=by rw [hz p (by simp)]
  have ih':=ih fun q hq=>hz q (by simp [hq]);simp only [List.takeWhile_cons,Function.comp] at ih' ⊢;simp only [e];split
  ·congr 1
  ·rfl
theorem yoo (l:List DomD) (d:DomD):(l.flatMap ja0).take (posF (fun x:DomD=>x.1) l d.1*3) ++ ja0 d ++ (l.flatMap ja0).drop (posF (fun x:DomD=>x.1) l d.1*3)=(insF (fun x:DomD=>x.1) l d).flatMap ja0:=by
 rw [juh,List.flatMap_append,List.flatMap_cons,jp6 jll,yax jll,List.append_assoc]
theorem yrk (z:List (TabD × RawT)) (p:TabD × RawT) (i:Nat):((z.map (·.2)).flatMap jbc).take (i*5) ++ jbc p.2 ++ ((z.map (·.2)).flatMap jbc).drop (i*5)=((z.take i ++ p :: z.drop i).map (·.2)).flatMap jbc:=by
 rw [List.map_append,List.map_cons,List.flatMap_append,List.flatMap_cons,List.map_take,List.map_drop,jp6 jlm,yax jlm,List.append_assoc]
theorem ycz {b:BookD} {s:ByteArray} (h:jdc (·.1) b.doms=true):jdc (fun x:DomD=>x.1) (ja2 b s).doms=true:=jm1 h _
theorem yad (b:BookD) (nm:ByteArray) (lo hi:Int) (v:Value) (w:World) (S:Nat→Prop) (h:jar w S b v) (hS:∀ k,S k→k<w.heap.size) (hd:b.doms.length*32≤100000000000000) (ht:b.tabs.length*80≤140737488355328) (hr:jdc (·.1) b.doms=true) :
  Calls Tryz.prog 62 #[v,.agg #[.string nm,.int .i64 lo,.int .i64 hi]] w fun e w'=>∃ u,e = .returned u∧jli w' w.heap.size S (jgj b (nm,lo,hi)) u∧Below w.heap.size w w':=by
 have HR:=hid (ycz (s:=nm) hr);obtain ⟨vd,vt,rfl,h1,h2⟩:=h;have H1:=hid h1;have H2:=hid h2;have HS:=hid hS;have EW:Hid (jgj b (nm,lo,hi) = ⟨insF (fun x:DomD=>x.1) (ja2 b nm).doms (nm,lo,hi),(ja2 b nm).tabs⟩):=rfl;generalize jgj b (nm,lo,hi)=R at *;obtain ⟨A,c,rfl,-,-⟩:=h1.form;obtain ⟨B,d,rfl,-,-⟩:=h2.form;clear h1 h2 hS hr;have hd:b.doms.length*32≤140737488355328:=by omega
 have hb0:=jac w (.cells #[.slice A b.doms.length c,.slice B b.tabs.length d] 38);have C0:=hid (Cs.new w [.slice A b.doms.length c,.slice B b.tabs.length d] 38);have hz0:(w.alloc (.cells #[.slice A b.doms.length c,.slice B b.tabs.length d] 38)).heap.size=w.heap.size+1:=by simp
 change Hid (Cs (w.alloc (.cells #[.slice A b.doms.length c,.slice B b.tabs.length d] 38)) _ _) at C0;generalize hw0:w.alloc (.cells #[.slice A b.doms.length c,.slice B b.tabs.length d] 38)=w0 at *;have hb1:=jac w0 (.cells #[.string nm,.int .i64 lo,.int .i64 hi] 58);have C1:=hid (Cs.new w0 [.string nm,.int .i64 lo,.int .i64 hi] 58);have hz1:(w0.alloc (.cells #[.string nm,.int .i64 lo,.int .i64 hi] 58)).heap.size=w.heap.size+2:=by simp;omega
 change Hid (Cs (w0.alloc (.cells #[.string nm,.int .i64 lo,.int .i64 hi] 58)) _ _) at C1;rw [hz0] at C1;have C01:=hid (C0.out.next hb1);have hb01:=bx hb0 hb1;generalize hw1:w0.alloc (.cells #[.string nm,.int .i64 lo,.int .i64 hi] 58)=w1 at *;have hb2:=jac w1 (.cells #[.slice none 0 0,.slice none 0 0] 38);have C2:=hid (Cs.new w1 [.slice none 0 0,.slice none 0 0] 38);have hz2:(w1.alloc (.cells #[.slice none 0 0,.slice none 0 0] 38)).heap.size=w.heap.size+3:=by simp;omega
 change Hid (Cs (w1.alloc (.cells #[.slice none 0 0,.slice none 0 0] 38)) _ _) at C2;rw [hz1] at C2;have C02:=hid (C01.out.next hb2);have C12:=hid (C1.out.next hb2);have hb02:=bx hb01 hb2;generalize hw2:w1.alloc (.cells #[.slice none 0 0,.slice none 0 0] 38)=w2 at *;have k0:=C02.out.at 0 rfl;have k1:=C02.out.at 1 rfl;have n0:=C12.out.at 0 rfl;have n1:=C12.out.at 1 rfl;have n2:=C12.out.at 2 rfl;have HB2:Hid (jar w2 S b (.agg #[.slice A b.doms.length c,.slice B b.tabs.length d])):=⟨_,_,rfl,H1.out.keep (fun p hp=>World.cell?_of_block (hb02.block _ (HS.out _ hp))),H2.out.keep (fun p hp=>World.cell?_of_block (hb02.block _ (HS.out _ hp)))⟩;go_enter Tryz.func62,Tryz.ntmps62
 go_wp2_with fail
 clear hw0 hw1 hw2 C0 C1 C01 hb0 hb1 hb2 hb01 k0 k1;refine (jk0 b nm _ _ S HB2.out (fun k hk=>Nat.lt_of_lt_of_le (HS.out k hk) hb02.size) hd ht).mono ?_;rintro e w3 ⟨u,rfl,hu,hb3⟩;clear n0 n1 n2;obtain ⟨vd,vt,rfl,o1,o2,hap⟩:=hu;have O1:=hid o1;have O2:=hid o2;have HAP:=hid hap;have hlen:=jha b nm;generalize hwb:ja2 b nm=wb at *;obtain ⟨A2,c2,rfl,-,-,-⟩:=jah o1;obtain ⟨us2,x1,x2⟩:=o2;obtain ⟨B2,d2,rfl,-,-,-⟩:=jah x1;have hbz:=jac w3 (.cells #[.slice A2 wb.doms.length c2,.slice B2 wb.tabs.length d2] 38);have CX:=hid (Cs.new w3 [.slice A2 wb.doms.length c2,.slice B2 wb.tabs.length d2] 38);change Hid (Cs (w3.alloc (.cells #[.slice A2 wb.doms.length c2,.slice B2 wb.tabs.length d2] 38)) _ _) at CX;have C14:=hid ((C12.out.next hb3).next hbz);have C24:=hid ((C2.out.next hb3).next hbz);have hb34:=bx hb3 hbz;have hb04:=bx hb02 hb34;have hz4:(w3.alloc (.cells #[.slice A2 wb.doms.length c2,.slice B2 wb.tabs.length d2] 38)).heap.size=w3.heap.size+1:=by simp
 have hs3:=hb3.size;have O1z:Hid ((w3.alloc (.cells #[.slice A2 wb.doms.length c2,.slice B2 wb.tabs.length d2] 38)).ownsRow w2.heap.size 58 3 (.slice A2 wb.doms.length c2) wb.doms.length (wb.doms.flatMap ja0)):=ja1 O1.out (fun k hk=>hbz.block k (O1.out.lt k hk).2);have O2z:Hid (OwnS Enc.tab (w3.alloc (.cells #[.slice A2 wb.doms.length c2,.slice B2 wb.tabs.length d2] 38)) w2.heap.size S 56 (.slice B2 wb.tabs.length d2) wb.tabs):=O2.out.keep (fun k hk=>hbz.block k (O2.out.lt k hk).2) (fun k hk=>hbz.block k (by have:=HS.out k hk;omega));have HL1:Hid (∀ k,(Value.slice A2 wb.doms.length c2).ownBlock=some k→w2.heap.size≤k∧k<w3.heap.size):=fun k hk=>O1.out.lt k hk;have HL2:Hid (∀ k,(Value.slice B2 wb.tabs.length d2).ownBlock=some k→w2.heap.size≤k∧k<w3.heap.size):=fun k hk=>O2.out.lt k hk;have x0:=CX.out.at 0 rfl;have n0:=C14.out.at 0 rfl;go_wp2_with fail
 generalize hw4:w3.alloc (.cells #[.slice A2 wb.doms.length c2,.slice B2 wb.tabs.length d2] 38)=w4 at *;clear hw4;have RW:=hid (jkl O1z.out (yfo _));refine (yia wb.doms _ nm _ RW.out (fun k hk=>by have:=(HL1.out k hk).2;omega) HR.out (by omega)).mono ?_;rintro e w5 ⟨⟨fb,rfl⟩,hb5⟩;have hb05:=bx hb04 hb5;have CX5:=hid (CX.out.next hb5);have C15:=hid (C14.out.next hb5);have C25:=hid (C24.out.next hb5);have O15:Hid (w5.ownsRow w2.heap.size 58 3 (.slice A2 wb.doms.length c2) wb.doms.length (wb.doms.flatMap ja0)):=ja1 O1z.out (fun k hk=>hb5.block k (by have:=(HL1.out k hk).2;omega));have O25:=hid (O2z.out.keep (w':=w5) (fun k hk=>hb5.block k (by have:=(HL2.out k hk).2;omega)) (fun k hk=>hb5.block k (by have:=HS.out k hk;omega)));clear n0 x0 RW;have hpl:=jpr (f:=fun x:DomD=>x.1) wb.doms nm;have HI:=hid (yoo wb.doms (nm,lo,hi));simp only at HI;generalize hpe:posF (fun x:DomD=>x.1) wb.doms nm=p at *;have x0:=CX5.out.at 0 rfl;have n0:=C15.out.at 0 rfl;have n1:=C15.out.at 1 rfl;have n2:=C15.out.at 2 rfl;have hs5:=hb5.size;have hbn:=jac w5 (.cells #[.string nm,.int .i64 lo,.int .i64 hi] 58);have hz6:(w5.alloc (.cells #[.string nm,.int .i64 lo,.int .i64 hi] 58)).heap.size=w5.heap.size+1:=by simp
 have hnew:Hid ((w5.alloc (.cells #[.string nm,.int .i64 lo,.int .i64 hi] 58)).heap[w5.heap.size]? = some (.cells (ja0 (nm,lo,hi)).toArray 58 (0,0))):=by show (w5.heap.push _)[w5.heap.size]? = _;simp [ja0]
 have O16:Hid ((w5.alloc (.cells #[.string nm,.int .i64 lo,.int .i64 hi] 58)).ownsRow w2.heap.size 58 3 (.slice A2 wb.doms.length c2) wb.doms.length (wb.doms.flatMap ja0)):=ja1 O15.out (fun k hk=>hbn.block k (by have:=(HL1.out k hk).2;omega));have O26:=hid (O25.out.keep (w':=w5.alloc (.cells #[.string nm,.int .i64 lo,.int .i64 hi] 58)) (fun k hk=>hbn.block k (by have:=(HL2.out k hk).2;omega)) (fun k hk=>hbn.block k (by have:=HS.out k hk;omega)));have CX6:=hid (CX5.out.next hbn);have C26:=hid (C25.out.next hbn);have hb06:=bx hb05 hbn;go_wp2_with fail
 generalize hw6:w5.alloc (.cells #[.string nm,.int .i64 lo,.int .i64 hi] 58)=w6 at *;clear hw6 n0 n1 n2 x0;refine (yrg w2.heap.size _ wb.doms.length p _ (ja0 (nm,lo,hi)) w5.heap.size _ O16.out (yfo _) hpl rfl (yd5 _) hnew.out (fun e=>by have:=(HL1.out _ e).2;omega) (by omega) (by omega)).mono ?_;rintro e w7 ⟨u7,rfl,o7,hg7,hm7⟩;rw [HI.out] at o7;have HO7:=hid o7;have HM7:=hid hm7;obtain ⟨A7,c7,rfl,-,-,-⟩:=jah o7;have CX7:=hid (CX6.out.grownO hg7 (fun e=>by have:=(HL1.out _ e).2;omega));have C27:=hid (C26.out.grownO hg7 (fun e=>by have:=(HL1.out _ e).1;omega));have hs7:=hg7.size;have O27:=hid (O26.out.grownO hg7 (fun k hk e=>HAP.out k e hk) (fun k hk=>⟨by have:=HS.out k hk;omega,fun e=>by have:=(HL1.out _ e).1;have:=HS.out k hk;omega⟩));have hb07:Below w.heap.size w w7:=hb06.trans (jag hg7 (by omega) (fun k e=>by have:=(HL1.out _ e).1;omega));have HB7:Hid (∀ k,(Value.slice A7 (wb.doms.length+1) c7).ownBlock=some k→(w2.heap.size≤k∧k<w3.heap.size∧(Value.slice B2 wb.tabs.length d2).ownBlock≠some k)∨w6.heap.size≤k):=fun k hk=>by
  rcases hm7 k hk with h | h
  ·exact .inl ⟨(HL1.out k h).1,(HL1.out k h).2,HAP.out k h⟩
  ·exact .inr h
 have x0:=CX7.out.at 0 rfl;have x1':=CX7.out.at 1 rfl;have f0:=CX7.out.2.2 0 (by simp);clear o7 hm7;have CX8:=hid (CX7.out.set 0 (by simp) (.slice A7 (wb.doms.length+1) c7));have y0:=CX8.out.at 0 rfl;have y1:=CX8.out.at 1 rfl;have C28:=hid (C27.out.keep (w':=w7.setCell ⟨w3.heap.size,0,none⟩ (.slice A7 (wb.doms.length+1) c7)) (RowKit.Below.heap_setCell _ _ _ _ (show w.heap.size+2≠w3.heap.size by omega)) (by simp [World.setCell]));have r0:=C28.out.at 0 rfl;have r1:=C28.out.at 1 rfl;have g0:=C28.out.2.2 0 (by simp);have g1:=C28.out.2.2 1 (by simp);go_wp2;refine bodyPost_ret (jla (b:=w.heap.size+2) rfl rfl ((C28.out.set 0 (by simp) _).set 1 (by simp) _)) rfl ⟨_,rfl,?_,((hb07.setCell (by show w.heap.size≤w3.heap.size;omega) _).setCell (by simp) _).setCell (by simp) _⟩;rw [EW.out];have hset:∀ k,k≠w3.heap.size→k≠w.heap.size+2→(((w7.setCell ⟨w3.heap.size,0,none⟩ (.slice A7 (wb.doms.length+1) c7)).setCell ⟨w.heap.size+2,0,none⟩ (.slice A7 (wb.doms.length+1) c7)).setCell ⟨w.heap.size+2,1,none⟩ (.slice B2 wb.tabs.length d2)).heap[k]? = w7.heap[k]?:=fun k hk1 hk2=>by
  rw [RowKit.Below.heap_setCell _ _ _ _ hk2,RowKit.Below.heap_setCell _ _ _ _ hk2,RowKit.Below.heap_setCell _ _ _ _ hk1]
 refine ⟨_,_,rfl,?_,(O27.out.keep (fun k hk=>hset k (by have:=(HL2.out k hk).2;omega) (by have:=(HL2.out k hk).1;omega)) (fun k hk=>hset k (by have:=HS.out k hk;omega) (by have:=HS.out k hk;omega))).mono (by omega),?_⟩
 ·have h8:=ja1 (w':=((w7.setCell ⟨w3.heap.size,0,none⟩ (.slice A7 (wb.doms.length+1) c7)).setCell ⟨w.heap.size+2,0,none⟩ (.slice A7 (wb.doms.length+1) c7)).setCell ⟨w.heap.size+2,1,none⟩ (.slice B2 wb.tabs.length d2)) HO7.out (fun k hk=>by
   rcases HB7.out k hk with h | h
   ·exact hset k (by omega) (by omega)
   ·exact hset k (by omega) (by omega))
  show World.ownsRow _ _ _ _ _ (insF (fun x:DomD=>x.1) wb.doms (nm,lo,hi)).length _
  rw [jip];exact jhl h8 (by omega)
 ·intro k hk e;rcases HB7.out k hk with h | h
  ·exact h.2.2 e
  ·have:=(HL2.out k e).2;omega
theorem jo6 (b:BookD) (t:TabD) (v vtt:Value) (w:World) (S:Nat→Prop) (h:jar w S b v) (htt:ja9 w S t vtt) (hS:∀ k,S k→k<w.heap.size) (hd:b.doms.length*32≤140737488355328) (ht:b.tabs.length*80≤100000000000000) (hr:jdc (·.name) b.tabs=true) :
  Calls Tryz.prog 61 #[v,vtt] w fun e w'=>∃ u,e = .returned u∧jli w' w.heap.size S (jd1 b t) u∧Below w.heap.size w w':=by
 obtain ⟨nm,pol,comp,ins,rules⟩:=t;have HR:Hid (jdc (·.name) (ja2 b nm).tabs=true):=jm1 hr _;obtain ⟨vd,vt,rfl,h1,h2⟩:=h;obtain ⟨vi,vr,rfl,hi,hrr⟩:=htt;simp only at hi hrr;have H1:=hid h1;have H2:=hid h2;have HS:=hid hS;have EW:Hid (jd1 b ⟨nm,pol,comp,ins,rules⟩ = ⟨(ja2 b nm).doms,insF (·.name) (ja2 b nm).tabs ⟨nm,pol,comp,ins,rules⟩⟩):=rfl;generalize jd1 b ⟨nm,pol,comp,ins,rules⟩=R at *;obtain ⟨A,c,rfl,-,-⟩:=h1.form;obtain ⟨B,d,rfl,-,-⟩:=h2.form;have HTR:Hid (∀ vi vr,Sl Enc.str w S ins vi→Sl Enc.rule w S rules vr→Enc.tab.rd w S ⟨nm,pol,comp,ins,rules⟩ [.string nm,.int .i64 pol,.bool comp,vi,vr]):=fun vi vr a b=>Enc.tab_rd.2 ⟨vi,vr,rfl,a,b⟩;have HTR':=hid (HTR.out _ _ hi hrr);obtain ⟨ia,ic,rfl,-,-⟩:=hi.form;obtain ⟨ra,rc,rfl,-,-⟩:=hrr.form;have HTQ:Hid (Enc.tab.rd w S ⟨nm,pol,comp,ins,rules⟩ (jbc (nm,pol,comp,(ia,ins.length,ic),(ra,rules.length,rc)))):=HTR'.out;clear h1 h2 hS hr HTR HTR' hi hrr;have ht:b.tabs.length*80≤140737488355328:=by omega
 have hb0:=jac w (.cells #[.slice A b.doms.length c,.slice B b.tabs.length d] 38);have C0:=hid (Cs.new w [.slice A b.doms.length c,.slice B b.tabs.length d] 38);have hz0:(w.alloc (.cells #[.slice A b.doms.length c,.slice B b.tabs.length d] 38)).heap.size=w.heap.size+1:=by simp
 change Hid (Cs (w.alloc (.cells #[.slice A b.doms.length c,.slice B b.tabs.length d] 38)) _ _) at C0;generalize hw0:w.alloc (.cells #[.slice A b.doms.length c,.slice B b.tabs.length d] 38)=w0 at *;have hb1:=jac w0 (.cells #[.string nm,.int .i64 pol,.bool comp,.slice ia ins.length ic,.slice ra rules.length rc] 56);have C1:=hid (Cs.new w0 [.string nm,.int .i64 pol,.bool comp,.slice ia ins.length ic,.slice ra rules.length rc] 56);have hz1:(w0.alloc (.cells #[.string nm,.int .i64 pol,.bool comp,.slice ia ins.length ic,.slice ra rules.length rc] 56)).heap.size=w.heap.size+2:=by simp;omega
 change Hid (Cs (w0.alloc (.cells #[.string nm,.int .i64 pol,.bool comp,.slice ia ins.length ic,.slice ra rules.length rc] 56)) _ _) at C1;rw [hz0] at C1;have C01:=hid (C0.out.next hb1);have hb01:=bx hb0 hb1;generalize hw1:w0.alloc (.cells #[.string nm,.int .i64 pol,.bool comp,.slice ia ins.length ic,.slice ra rules.length rc] 56)=w1 at *;have hb2:=jac w1 (.cells #[.slice none 0 0,.slice none 0 0] 38);have C2:=hid (Cs.new w1 [.slice none 0 0,.slice none 0 0] 38);have hz2:(w1.alloc (.cells #[.slice none 0 0,.slice none 0 0] 38)).heap.size=w.heap.size+3:=by simp;omega
 change Hid (Cs (w1.alloc (.cells #[.slice none 0 0,.slice none 0 0] 38)) _ _) at C2;rw [hz1] at C2;have C02:=hid (C01.out.next hb2);have C12:=hid (C1.out.next hb2);have hb02:=bx hb01 hb2;generalize hw2:w1.alloc (.cells #[.slice none 0 0,.slice none 0 0] 38)=w2 at *;have k0:=C02.out.at 0 rfl;have k1:=C02.out.at 1 rfl;have n0:=C12.out.at 0 rfl;have n1:=C12.out.at 1 rfl;have n2:=C12.out.at 2 rfl;have n3:=C12.out.at 3 rfl;have n4:=C12.out.at 4 rfl;have HB2:Hid (jar w2 S b (.agg #[.slice A b.doms.length c,.slice B b.tabs.length d])):=⟨_,_,rfl,H1.out.keep (fun p hp=>World.cell?_of_block (hb02.block _ (HS.out _ hp))),H2.out.keep (fun p hp=>World.cell?_of_block (hb02.block _ (HS.out _ hp)))⟩;go_enter Tryz.func61,Tryz.ntmps61
 go_wp2_with fail
 clear hw0 hw1 hw2 C0 C1 C01 hb0 hb1 hb2 hb01 k0 k1;refine (jk0 b nm _ _ S HB2.out (fun k hk=>Nat.lt_of_lt_of_le (HS.out k hk) hb02.size) hd ht).mono ?_;rintro e w3 ⟨u,rfl,hu,hb3⟩;clear n0 n1 n2 n3 n4;obtain ⟨vd,vt,rfl,o1,o2,hap⟩:=hu;have O1:=hid o1;have O2:=hid o2;have HAP:=hid hap;have hlen:=jha b nm;generalize hwb:ja2 b nm=wb at *;obtain ⟨A2,c2,rfl,-,-,-⟩:=jah o1;obtain ⟨us2,x1,x2⟩:=o2;obtain ⟨B2,d2,rfl,-,-,-⟩:=jah x1;have hbz:=jac w3 (.cells #[.slice A2 wb.doms.length c2,.slice B2 wb.tabs.length d2] 38);have CX:=hid (Cs.new w3 [.slice A2 wb.doms.length c2,.slice B2 wb.tabs.length d2] 38);change Hid (Cs (w3.alloc (.cells #[.slice A2 wb.doms.length c2,.slice B2 wb.tabs.length d2] 38)) _ _) at CX;have C14:=hid ((C12.out.next hb3).next hbz);have C24:=hid ((C2.out.next hb3).next hbz);have hb34:=bx hb3 hbz;have hb04:=bx hb02 hb34;have hz4:(w3.alloc (.cells #[.slice A2 wb.doms.length c2,.slice B2 wb.tabs.length d2] 38)).heap.size=w3.heap.size+1:=by simp
 have hs3:=hb3.size;have O1z:Hid ((w3.alloc (.cells #[.slice A2 wb.doms.length c2,.slice B2 wb.tabs.length d2] 38)).ownsRow w2.heap.size 58 3 (.slice A2 wb.doms.length c2) wb.doms.length (wb.doms.flatMap ja0)):=ja1 O1.out (fun k hk=>hbz.block k (O1.out.lt k hk).2);have O2z:Hid (OwnS Enc.tab (w3.alloc (.cells #[.slice A2 wb.doms.length c2,.slice B2 wb.tabs.length d2] 38)) w2.heap.size S 56 (.slice B2 wb.tabs.length d2) wb.tabs):=O2.out.keep (fun k hk=>hbz.block k (O2.out.lt k hk).2) (fun k hk=>hbz.block k (by have:=HS.out k hk;omega));have HL1:Hid (∀ k,(Value.slice A2 wb.doms.length c2).ownBlock=some k→w2.heap.size≤k∧k<w3.heap.size):=fun k hk=>O1.out.lt k hk;have HL2:Hid (∀ k,(Value.slice B2 wb.tabs.length d2).ownBlock=some k→w2.heap.size≤k∧k<w3.heap.size):=fun k hk=>O2.out.lt k hk;have x1':=CX.out.at 1 rfl;have n0:=C14.out.at 0 rfl;go_wp2_with fail
 generalize hw4:w3.alloc (.cells #[.slice A2 wb.doms.length c2,.slice B2 wb.tabs.length d2] 38)=w4 at *;clear hw4;have ZB:=hid (yav x2 x1.1);obtain ⟨z,zz1,zz2,zz3,zz4⟩:=ZB.out;subst zz2;have hzl:(z.map (·.2)).length=wb.tabs.length:=by rw [← zz1];simp
 have Z1:=hid zz1;have Z3:=hid zz3;have Z4:=hid zz4;have ZL:=hid hzl;have X1:=hid x1;have hb04':=hid hb04;clear zz1 zz3 zz4 hzl x1 x2 ZB;have X4:Hid (w4.ownsRow w2.heap.size 56 5 (.slice B2 wb.tabs.length d2) wb.tabs.length ((z.map (·.2)).flatMap jbc)):=ja1 X1.out (fun k hk=>hbz.block k (HL2.out k hk).2);have RW:Hid (Raw w4 5 (.slice B2 wb.tabs.length d2) (z.map (·.2)).length ((z.map (·.2)).flatMap jbc)):=ZL.out.symm ▸ jkl X4.out (yfp _);have HRZ:Hid (jdc (fun x:RawT=>x.1) (z.map (·.2))=true):=by show _=_;rw [yqb Z4.out,Z1.out];exact HR.out
 have hzb:(z.map (·.2)).length<4611686018427387904:=by rw [ZL.out];omega
 refine (yib (z.map (·.2)) _ nm _ RW.out (fun k hk=>by have:=(HL2.out k hk).2;omega) HRZ.out hzb).mono ?_;have HPE:=hid (yr9 Z4.out nm);rw [HPE.out,Z1.out];rintro e w5 ⟨⟨fb,rfl⟩,hb5⟩;have hb05:=bx hb04 hb5;have CX5:=hid (CX.out.next hb5);have C15:=hid (C14.out.next hb5);have C25:=hid (C24.out.next hb5);have O15:Hid (w5.ownsRow w2.heap.size 58 3 (.slice A2 wb.doms.length c2) wb.doms.length (wb.doms.flatMap ja0)):=ja1 O1z.out (fun k hk=>hb5.block k (by have:=(HL1.out k hk).2;omega));have X5:Hid (w5.ownsRow w2.heap.size 56 5 (.slice B2 wb.tabs.length d2) wb.tabs.length ((z.map (·.2)).flatMap jbc)):=ja1 X4.out (fun k hk=>hb5.block k (by have:=(HL2.out k hk).2;omega));clear n0 x1' RW HRZ HPE;have hpl:=jpr (f:=(·.name)) wb.tabs nm;have HIF:=hid (juh (f:=(·.name)) wb.tabs ⟨nm,pol,comp,ins,rules⟩);simp only at HIF;generalize hpe:posF (·.name) wb.tabs nm=p at *;have x1':=CX5.out.at 1 rfl;have n0:=C15.out.at 0 rfl;have n1:=C15.out.at 1 rfl;have n2:=C15.out.at 2 rfl;have n3:=C15.out.at 3 rfl;have n4:=C15.out.at 4 rfl;have hs5:=hb5.size;have hbn:=jac w5 (.cells #[.string nm,.int .i64 pol,.bool comp,.slice ia ins.length ic,.slice ra rules.length rc] 56);have hz6:(w5.alloc (.cells #[.string nm,.int .i64 pol,.bool comp,.slice ia ins.length ic,.slice ra rules.length rc] 56)).heap.size=w5.heap.size+1:=by simp
 have hnew:Hid ((w5.alloc (.cells #[.string nm,.int .i64 pol,.bool comp,.slice ia ins.length ic,.slice ra rules.length rc] 56)).heap[w5.heap.size]? = some (.cells (jbc (nm,pol,comp,(ia,ins.length,ic),(ra,rules.length,rc))).toArray 56 (0,0))):=by show (w5.heap.push _)[w5.heap.size]? = _;simp [jbc]
 have O16:Hid ((w5.alloc (.cells #[.string nm,.int .i64 pol,.bool comp,.slice ia ins.length ic,.slice ra rules.length rc] 56)).ownsRow w2.heap.size 58 3 (.slice A2 wb.doms.length c2) wb.doms.length (wb.doms.flatMap ja0)):=ja1 O15.out (fun k hk=>hbn.block k (by have:=(HL1.out k hk).2;omega));have X6:Hid ((w5.alloc (.cells #[.string nm,.int .i64 pol,.bool comp,.slice ia ins.length ic,.slice ra rules.length rc] 56)).ownsRow w2.heap.size 56 5 (.slice B2 wb.tabs.length d2) wb.tabs.length ((z.map (·.2)).flatMap jbc)):=ja1 X5.out (fun k hk=>hbn.block k (by have:=(HL2.out k hk).2;omega));have CX6:=hid (CX5.out.next hbn);have C26:=hid (C25.out.next hbn);have hb06:=bx hb05 hbn;go_wp2_with fail
 generalize hw6:w5.alloc (.cells #[.string nm,.int .i64 pol,.bool comp,.slice ia ins.length ic,.slice ra rules.length rc] 56)=w6 at *;clear hw6 n0 n1 n2 n3 n4 x1';refine (yri w2.heap.size _ wb.tabs.length p _ (jbc (nm,pol,comp,(ia,ins.length,ic),(ra,rules.length,rc))) w5.heap.size _ X6.out (yfp _) hpl rfl (yd7 _) hnew.out (fun e=>by have:=(HL2.out _ e).2;omega) (by omega) (by omega)).mono ?_;rintro e w7 ⟨u7,rfl,o7,hg7,hm7⟩;have EI:=yrk z (⟨nm,pol,comp,ins,rules⟩,(nm,pol,comp,(ia,ins.length,ic),(ra,rules.length,rc))) p;simp only at EI;rw [EI] at o7;clear EI;have HO7:=hid o7;obtain ⟨A7,c7,rfl,-,-,-⟩:=jah o7;have CX7:=hid (CX6.out.grownO hg7 (fun e=>by have:=(HL2.out _ e).2;omega));have C27:=hid (C26.out.grownO hg7 (fun e=>by have:=(HL2.out _ e).1;omega));have hs7:=hg7.size;have O17:Hid (w7.ownsRow w2.heap.size 58 3 (.slice A2 wb.doms.length c2) wb.doms.length (wb.doms.flatMap ja0)):=ja1 O16.out (fun k hk=>hg7.block k (by have:=(HL1.out k hk).2;omega) (fun e=>HAP.out k hk e.symm));have hb07:Below w.heap.size w w7:=hb06.trans (jag hg7 (by omega) (fun k e=>by have:=(HL2.out _ e).1;omega));have HB7:Hid (∀ k,(Value.slice A7 (wb.tabs.length+1) c7).ownBlock=some k→(w2.heap.size≤k∧k<w3.heap.size∧(Value.slice A2 wb.doms.length c2).ownBlock≠some k)∨w6.heap.size≤k):=fun k hk=>by
  rcases hm7 k hk with h | h
  ·exact .inl ⟨(HL2.out k h).1,(HL2.out k h).2,fun e=>HAP.out k e h⟩
  ·exact .inr h
 have x0:=CX7.out.at 0 rfl;have x1':=CX7.out.at 1 rfl;have f1:=CX7.out.2.2 1 (by simp);clear o7 hm7;have CX8:=hid (CX7.out.set 1 (by simp) (.slice A7 (wb.tabs.length+1) c7));have y0:=CX8.out.at 0 rfl;have y1:=CX8.out.at 1 rfl;have C28:=hid (C27.out.keep (w':=w7.setCell ⟨w3.heap.size,1,none⟩ (.slice A7 (wb.tabs.length+1) c7)) (RowKit.Below.heap_setCell _ _ _ _ (show w.heap.size+2≠w3.heap.size by omega)) (by simp [World.setCell]));have r0:=C28.out.at 0 rfl;have r1:=C28.out.at 1 rfl;have g0:=C28.out.2.2 0 (by simp);have g1:=C28.out.2.2 1 (by simp);go_wp2;refine bodyPost_ret (jla (b:=w.heap.size+2) rfl rfl ((C28.out.set 0 (by simp) _).set 1 (by simp) _)) rfl ⟨_,rfl,?_,((hb07.setCell (by show w.heap.size≤w3.heap.size;omega) _).setCell (by simp) _).setCell (by simp) _⟩;rw [EW.out];have hset:∀ k,k≠w3.heap.size→k≠w.heap.size+2→(((w7.setCell ⟨w3.heap.size,1,none⟩ (.slice A7 (wb.tabs.length+1) c7)).setCell ⟨w.heap.size+2,0,none⟩ (.slice A2 wb.doms.length c2)).setCell ⟨w.heap.size+2,1,none⟩ (.slice A7 (wb.tabs.length+1) c7)).heap[k]? = w7.heap[k]?:=fun k hk1 hk2=>by
  rw [RowKit.Below.heap_setCell _ _ _ _ hk2,RowKit.Below.heap_setCell _ _ _ _ hk2,RowKit.Below.heap_setCell _ _ _ _ hk1]
 refine ⟨_,_,rfl,jhl (ja1 O17.out (fun k hk=>hset k (by have:=(HL1.out k hk).2;omega) (by have:=(HL1.out k hk).1;omega))) (by omega),?_,?_⟩
 ·have h8:=ja1 (w':=((w7.setCell ⟨w3.heap.size,1,none⟩ (.slice A7 (wb.tabs.length+1) c7)).setCell ⟨w.heap.size+2,0,none⟩ (.slice A2 wb.doms.length c2)).setCell ⟨w.heap.size+2,1,none⟩ (.slice A7 (wb.tabs.length+1) c7)) HO7.out (fun k hk=>by
   rcases HB7.out k hk with h | h
   ·exact hset k (by omega) (by omega)
   ·exact hset k (by omega) (by omega))
  have hSk:∀ k,S k→(((w7.setCell ⟨w3.heap.size,1,none⟩ (.slice A7 (wb.tabs.length+1) c7)).setCell ⟨w.heap.size+2,0,none⟩ (.slice A2 wb.doms.length c2)).setCell ⟨w.heap.size+2,1,none⟩ (.slice A7 (wb.tabs.length+1) c7)).heap[k]? = w.heap[k]?:=fun k hk=>by
   have:=HS.out k hk
   rw [hset k (by omega) (by omega),hb07.block k this]
  have hS3:∀ k,S k→w3.heap[k]? = w.heap[k]?:=fun k hk=>by
   have:=HS.out k hk
   rw [hb3.block k (by omega),hb02.block k this]
  have hzz:jvs (((w7.setCell ⟨w3.heap.size,1,none⟩ (.slice A7 (wb.tabs.length+1) c7)).setCell ⟨w.heap.size+2,0,none⟩ (.slice A2 wb.doms.length c2)).setCell ⟨w.heap.size+2,1,none⟩ (.slice A7 (wb.tabs.length+1) c7)) S (z.take p ++ (⟨nm,pol,comp,ins,rules⟩,(nm,pol,comp,(ia,ins.length,ic),(ra,rules.length,rc))) :: z.drop p):=by
   have hz0:=Z3.out.keep (w':=((w7.setCell ⟨w3.heap.size,1,none⟩ (.slice A7 (wb.tabs.length+1) c7)).setCell ⟨w.heap.size+2,0,none⟩ (.slice A2 wb.doms.length c2)).setCell ⟨w.heap.size+2,1,none⟩ (.slice A7 (wb.tabs.length+1) c7)) (fun k hk=>(hSk k hk).trans (hS3 k hk).symm);intro q hq;rcases List.mem_append.1 hq with hq | hq
   ·exact hz0 q (List.mem_of_mem_take hq)
   ·rcases List.mem_cons.1 hq with rfl | hq
    ·exact Enc.tab.keep HTQ.out fun pp hp=>World.cell?_of_block (hSk _ hp)
    ·exact hz0 q (List.mem_of_mem_drop hq)
  have he:=yc1 hzz;have e1:(z.take p ++ ((⟨nm,pol,comp,ins,rules⟩:TabD),((nm,pol,comp,(ia,ins.length,ic),(ra,rules.length,rc)):RawT)) :: z.drop p).map (·.1)=insF (·.name) wb.tabs ⟨nm,pol,comp,ins,rules⟩:=by
   rw [HIF.out,List.map_append,List.map_cons,List.map_take,List.map_drop,Z1.out]
  rw [e1] at he;refine ⟨_,?_,he⟩
  show World.ownsRow _ _ _ _ _ (insF (·.name) wb.tabs _).length _
  rw [jip];exact jhl h8 (by omega)
 ·intro k hk e;rcases HB7.out k e with h | h
  ·exact h.2.2 hk
  ·have:=(HL1.out k hk).2;omega
open Go.Lib (hid)
open Go.RowKit
def bs (l:Bs):ByteArray:=⟨l.toArray⟩
theorem jdb (l:Bs):(bs l).data.toList=l:=by simp [bs]
theorem jeq (l:Bs):(bs l).size=l.length:=by show (bs l).data.size=_;simp [bs]
theorem ygm (s:ByteArray):bs s.data.toList=s:=by cases s;simp [bs]
def PA (w:World) (g:Nat) (p:PS):Prop :=
 g<w.heap.size∧w.cell? ⟨g,0,none⟩=some (.string (bs p.rest))∧w.cell? ⟨g,1,none⟩=some (.bool p.bad)∧w.frozen? ⟨g,0,none⟩=false∧w.frozen? ⟨g,1,none⟩=false
section
variable {w w' w2:World} {g:Nat} {p:PS}
theorem PA.keep (h:PA w g p) (hb:w'.heap[g]? = w.heap[g]?) (hs:w.heap.size≤w'.heap.size):PA w' g p:=by
 obtain ⟨h0,h1,h2,h3,h4⟩:=h;exact ⟨Nat.lt_of_lt_of_le h0 hs,(World.cell?_of_block hb).trans h1,(World.cell?_of_block hb).trans h2,(World.frozen?_of_block hb).trans h3,(World.frozen?_of_block hb).trans h4⟩
theorem PA.next (h:PA w g p) (hb:Below w.heap.size w w'):PA w' g p:=h.keep (hb.block g h.1) hb.size
theorem PA.set0 (h:PA w g p) (l:Bs):PA (w.setCell ⟨g,0,none⟩ (.string (bs l))) g ⟨l,p.bad⟩:=by
 obtain ⟨h0,h1,h2,h3,h4⟩:=h;exact ⟨by simpa [World.setCell] using h0,World.cell?_setCell_same w _ _ h1,(World.cell?_setCell_other w _ _ _ (by simp)).trans h2,by simpa using h3,by simpa using h4⟩
theorem PA.set1 (h:PA w g p) (b:Bool):PA (w.setCell ⟨g,1,none⟩ (.bool b)) g ⟨p.rest,b⟩:=by
 obtain ⟨h0,h1,h2,h3,h4⟩:=h;exact ⟨by simpa [World.setCell] using h0,(World.cell?_setCell_other w _ _ _ (by simp)).trans h1,World.cell?_setCell_same w _ _ h2,by simpa using h3,by simpa using h4⟩
theorem PA.new (w:World) (l:Bs) (ty:Nat):PA (w.alloc (.cells #[.string (bs l),.bool false] ty)) w.heap.size ⟨l,false⟩ :=
 ⟨by simp,(World.cell?_alloc_new ..).trans rfl,(World.cell?_alloc_new ..).trans rfl,by simp,by simp⟩
theorem jcv (w:World) (g o:Nat) (v:Value):w.grownBy (w.setCell ⟨g,o,none⟩ v) (some g) :=
 ⟨rfl,rfl,rfl,by simp [World.setCell],fun k _ hk=>RowKit.Below.heap_setCell _ _ _ _ (by intro h;apply hk;rw [h])⟩
theorem jak (h:Below w.heap.size w w'):w.grownBy w' (some g):=jbb h
theorem Sl.grown {α:Type} {E:Enc α} {S:Nat→Prop} {l:List α} {v:Value} (h:Sl E w S l v) (hg:w.grownBy w' (some g)) (hS:∀ k,S k→k<w.heap.size∧k≠g):Sl E w' S l v :=
 h.keep fun q hq=>World.cell?_of_block (hg.block _ (hS _ hq).1 (by intro e;injection e with e;exact (hS _ hq).2 e))
theorem OwnG.grownP {α:Type} {E:Enc α} {base lo e:Nat} {v:Value} {l:List α} (h:OwnG E w base lo e v l) (hg:w.grownBy w' (some g)) (h1:g<lo) (h2:g<base):OwnG E w' base lo e v l:=by
 have hlt:=h.lt;obtain ⟨us,k1,k2⟩:=h;refine ⟨us,ja1 k1 (fun b hb=>hg.block b (hlt b hb).2 (by intro e;injection e with e;have:=(hlt b hb).1;omega)),?_⟩;refine (k2.keep (w':=w') fun q hq=>World.cell?_of_block (hg.block _ hq.2.1 (by intro e;injection e with e;have:=hq.1;omega))).more fun k hk=>⟨hk.1,Nat.lt_of_lt_of_le hk.2.1 hg.size,hk.2.2⟩
end
theorem jq8 (p:PS):(jcg p).2.rest.length≤p.rest.length:=Nat.le_trans (List.dropWhile_sublist _).length_le (jld _)
theorem jec (s:Bs) (p:PS):(jat s p).2.rest.length+(if (jat s p).1 then s.length else 0)≤p.rest.length:=by
 have:=jld p.rest
 unfold jat;by_cases h:s.isPrefixOf (jau p.rest)=true
 ·simp only [h,if_true,List.length_drop];have:=(List.isPrefixOf_iff_prefix.1 h).length_le
  omega
 ·simp only [Bool.not_eq_true] at h;simp only [h,Bool.false_eq_true,if_false];omega
theorem jfp (s:Bs) (p:PS):(jb4 s p).rest.length+(if (jb4 s p).bad then 0 else s.length)≤p.rest.length:=by
 have:=jec s p
 unfold jb4;simp only;cases h:(jat s p).1 <;> rw [h] at this <;> cases p.bad <;> simp at this ⊢ <;> omega
theorem jg9 (p:PS):(jaw p).2.rest.length≤p.rest.length:=by
 have:=jld p.rest
 unfold jaw;split <;> simp only [List.length_drop] <;> omega
theorem jmu (s:Bs) (p:PS):(jcx s p).2.rest.length≤p.rest.length:=jq8 p
theorem jrz (p:PS):(jdl p).2.rest.length≤p.rest.length:=by
 have a:=jg9 p;have b:=jec [46,46] (jaw p).2;have c:=jg9 (jat [46,46] (jaw p).2).2;unfold jdl;split <;> simp only <;> omega
theorem yf1 {α:Type} {item:PS → α × PS} (hi:∀ p,(item p).2.rest.length≤p.rest.length) {s:Bs} (hs:1≤s.length):∀ (n:Nat) (p:PS),(sepP item s n p).2.rest.length+(sepP item s n p).1.length≤p.rest.length
 | 0,p=>by simp [sepP]
 | n+1,p=>by
  have a:=jec s p;have b:=hi (jat s p).2;have c:=yf1 hi hs n (item (jat s p).2).2;unfold sepP;split
  ·rename_i h
   rw [if_pos h] at a;simp only [List.length_cons];omega
  ·simp only [List.length_nil];omega
theorem juq {α:Type} {item:PS → α × PS} (hi:∀ p,(item p).2.rest.length≤p.rest.length) {s:Bs} (hs:1≤s.length) (p:PS):(jvy item s p).2.rest.length≤p.rest.length:=by
 have b:=hi p;have c:=yf1 hi hs ((item p).2.rest.length+1) (item p).2;unfold jvy;simp only;omega
theorem yef (p:PS):(jh8 p).2.rest.length≤p.rest.length:=juq jrz (by simp) p
theorem jt0 (p:PS):(jfr p).2.rest.length≤p.rest.length:=by
 have a:=jec [42] p;have b:=jmu [110,111,116] (jat [42] p).2;have c:=yef (jcx [110,111,116] (jat [42] p).2).2;unfold jfr;split <;> simp only <;> omega
theorem jwp (p:PS):(jhd p).2.rest.length≤p.rest.length:=juq jt0 (by simp) p
theorem jle (p:PS):(strP p).2.rest.length≤p.rest.length:=jq8 p
theorem jug (p:PS):(jio p).2.rest.length≤p.rest.length:=juq jle (by simp) p
theorem jva (p:PS):(jjv p).2.rest.length+(if (jjv p).2.bad then 0 else 1)≤p.rest.length:=by
 have a:=jwp p;have b:=jfp [61,62] (jhd p).2;have c:=jg9 (jb4 [61,62] (jhd p).2);have d:=jfp [59] (jaw (jb4 [61,62] (jhd p).2)).2;unfold jjv;simp only [List.length_cons,List.length_nil,Nat.zero_add] at d ⊢;omega
theorem yfv (p:PS):(polP p).2.rest.length≤p.rest.length:=by
 have:=jq8 p
 unfold polP;split <;> exact this
theorem jxb (p:PS) (hb:p.bad=false) (ht:(jat [125] p).1=false):jmr (jjv (jat [125] p).2).2<jmr p:=by
 have a:=jec [125] p;have b:=jva (jat [125] p).2;rw [ht] at a;unfold jmr;rw [hb];simp at a;cases hh:(jjv (jat [125] p).2).2.bad <;> rw [hh] at b <;> simp at b ⊢ <;> omega
end Go.Proofs.YthmlndmlnlfhnaaGreatDoor
