import Derived.Test.YthmlndmlnlfhnaaGreatDoorK82359047
import Derived.Test.YthmlndmlnlfhnaaGreatDoorK0fe30175
import Derived.Test.YthmlndmlnlfhnaaGreatDoorK5b41b1bf
import Derived.Test.YthmlndmlnlfhnaaGreatDoorK1e100a8b
import Derived.Test.YthmlndmlnlfhnaaGreatDoorK52898964
set_option maxRecDepth 100000
set_option maxHeartbeats 16000000
namespace Go.Proofs.YthmlndmlnlfhnaaGreatDoor
open Go.Lib (hid)
open Go.RowKit
theorem jwg {b:BookD} {t:TabD} (h:(jct t (boxL b t.ins)).2=true):badT b t=some ((jct t (boxL b t.ins)).1,8):=by unfold badT;rw [if_pos h]
theorem yab {b:BookD} {t:TabD} (h:(jct t (boxL b t.ins)).2=false) (hc:t.comp=false):badT b t=none:=by unfold badT;rw [h,hc];rfl
theorem ye3 {b:BookD} {t:TabD} (h:(jct t (boxL b t.ins)).2=false) (hc:t.comp=true) (hg:(gapV t (boxL b t.ins)).2=true):badT b t=some ((gapV t (boxL b t.ins)).1,7):=by unfold badT;rw [h,hc,hg];rfl
theorem yaa {b:BookD} {t:TabD} (h:(jct t (boxL b t.ins)).2=false) (hg:(gapV t (boxL b t.ins)).2=false):badT b t=none:=by unfold badT;rw [h,hg];simp
def yi5 (R:Option (List Int × Int)) (w:World) (e:Ending) (w':World):Prop:=∃ v,e = .returned (.tuple #[v,.int .i64 (R.getD ([],0)).2])∧Sl Enc.int w' (From w.heap.size w') (R.getD ([],0)).1 v∧Below w.heap.size w w'
theorem jtv (b:BookD) (t:TabD) (v vt:Value) (w:World) (h:jar w (Old w) b v) (ht:ja9 w (Old w) t vt) (hs:jgd b) (hst:jdm t) (hl:t.ins.length≤3) (hbx:je0 b t.ins=true) :
  Calls Tryz.prog 55 #[v,vt] w (yi5 (badT b t) w):=by
 have HS:=hid hs;have HST:=hid hst;have HB:=hid h;have HT:=hid ht;have HBV:Hid (boxV b t=(boxL b t.ins,true)):=by show _=_;unfold boxV;rw [if_pos hbx]
 have HL:=hid hl;clear hs hst hbx hl;have H1:Hid ((jct t (boxL b t.ins)).2=true→badT b t=some ((jct t (boxL b t.ins)).1,8)):=jwg;have H2:Hid ((jct t (boxL b t.ins)).2=false→t.comp=false→badT b t=none):=yab;have H3:Hid ((jct t (boxL b t.ins)).2=false→t.comp=true→(gapV t (boxL b t.ins)).2=true→badT b t=some ((gapV t (boxL b t.ins)).1,7)):=ye3;have H4:Hid ((jct t (boxL b t.ins)).2=false→(gapV t (boxL b t.ins)).2=false→badT b t=none):=yaa;generalize badT b t=R at *;obtain ⟨vd,vtb,rfl,h1,h2⟩:=h;obtain ⟨vi,vr,rfl,hi,hr⟩:=ht;obtain ⟨A,c,rfl,hc1,hc2,-⟩:=h1;obtain ⟨B,d,rfl,hd1,hd2,-⟩:=h2;obtain ⟨Ai,ci,rfl,hi1,hi2,-⟩:=hi;obtain ⟨Ar,cr,rfl,hr1,hr2,-⟩:=hr;have hb0:=jaa w (.cells #[.slice A b.doms.length c,.slice B b.tabs.length d] 38);have C0:=hid (Cs.new w [.slice A b.doms.length c,.slice B b.tabs.length d] 38);have hz0:(w.alloc (.cells #[.slice A b.doms.length c,.slice B b.tabs.length d] 38)).heap.size=w.heap.size+1:=by simp
 change Hid (Cs (w.alloc (.cells #[.slice A b.doms.length c,.slice B b.tabs.length d] 38)) _ _) at C0;generalize hw0:w.alloc (.cells #[.slice A b.doms.length c,.slice B b.tabs.length d] 38)=w0 at *;have hb1:=jaa w0 (.cells #[.string t.name,.int .i64 t.pol,.bool t.comp,.slice Ai t.ins.length ci,.slice Ar t.rules.length cr] 56);have C1:=hid (Cs.new w0 [.string t.name,.int .i64 t.pol,.bool t.comp,.slice Ai t.ins.length ci,.slice Ar t.rules.length cr] 56);change Hid (Cs (w0.alloc (.cells #[.string t.name,.int .i64 t.pol,.bool t.comp,.slice Ai t.ins.length ci,.slice Ar t.rules.length cr] 56)) _ _) at C1;rw [hz0] at C1;have C01:=hid (C0.out.next hb1);have hb01:=bx hb0 hb1;generalize hw1:w0.alloc (.cells #[.string t.name,.int .i64 t.pol,.bool t.comp,.slice Ai t.ins.length ci,.slice Ar t.rules.length cr] 56)=w1 at *;have k0:=C01.out.at 0 rfl;have k1:=C01.out.at 1 rfl;have q0:=C1.out.at 0 rfl;have q1:=C1.out.at 1 rfl;have q2:=C1.out.at 2 rfl;have q3:=C1.out.at 3 rfl;have q4:=C1.out.at 4 rfl;have HB1:=hid (HB.out.onOld hb01);have HT1:=hid (HT.out.onOld hb01);go_enter Tryz.func55,Tryz.ntmps55
 go_wp2_with fail
 clear hw0 hw1;refine (ye6 b t _ _ _ HB1.out HT1.out HS.out HL.out).mono ?_;rintro e w2 ⟨v2,rfl,hn2,hb2⟩;have hbv:=HBV.out;rw [hbv] at hn2 ⊢;simp only at hn2 ⊢;have HA2:=hid (hn2.more (fun _ h=>h.2):Sl Enc.rng.slice w2 (Old w2) (boxL b t.ins) v2);obtain ⟨A2,c2,rfl,-,-⟩:=hn2.form;have hb02:=bx hb01 hb2;have C2:=hid (C1.out.next hb2);have HT2:=hid (HT1.out.onOld hb2);have r0:=C2.out.at 0 rfl;have r1:=C2.out.at 1 rfl;have r2:=C2.out.at 2 rfl;have r3:=C2.out.at 3 rfl;have r4:=C2.out.at 4 rfl;clear hbv hn2 k0 k1 q0 q1 q2 q3 q4 C01 HBV;go_wp2_with fail
 refine (jm5 t (boxL b t.ins) _ _ _ HT2.out HA2.out HST.out).mono ?_;rintro e w3 ⟨v3,rfl,hn3,hb3⟩;have HN3:=hid hn3;obtain ⟨A3,c3,rfl,-,-⟩:=hn3.form;clear hn3;have hb03:=bx hb02 hb3;have C3:=hid (C2.out.next hb3);have HT3:=hid (HT2.out.onOld hb3);have HA3:=hid (HA2.out.onOld hb3);have s0:=C3.out.at 0 rfl;have s1:=C3.out.at 1 rfl;have s2:=C3.out.at 2 rfl;have s3:=C3.out.at 3 rfl;have s4:=C3.out.at 4 rfl;clear r0 r1 r2 r3 r4;cases hcl:(jct t (boxL b t.ins)).2
 ·cases hcm:t.comp
  ·have HR:Hid (R=none):=H2.out hcl hcm;rw [hcm] at s2;clear hcl;go_wp2;go_ret2;rw [HR.out];exact ⟨_,rfl,Sl.nil,hb03⟩
  ·have HCM:=hid hcm;have HCL:=hid hcl;have s2':=s2;rw [hcm] at s2';clear s2 hcl hcm;have hTv:ja9 w3 (Old w3) t (.agg #[.string t.name,.int .i64 t.pol,.bool true,.slice Ai t.ins.length ci,.slice Ar t.rules.length cr]):=by have:=HT3.out;rw [HCM.out] at this;exact this
   have HTV:=hid hTv;clear hTv;go_wp2_with fail
   refine (jqx t (boxL b t.ins) _ _ _ HTV.out HA3.out HST.out).mono ?_;rintro e w4 ⟨v4,rfl,hn4,hb4⟩;have HN4:=hid hn4;obtain ⟨A4,c4,rfl,-,-⟩:=hn4.form;clear hn4;have hb04:=bx hb03 hb4;cases hgp:(gapV t (boxL b t.ins)).2
   ·have HR:Hid (R=none):=H4.out HCL.out hgp;clear hgp;go_wp2;go_ret2;rw [HR.out];exact ⟨_,rfl,Sl.nil,hb04⟩
   ·have HR:Hid (R=some ((gapV t (boxL b t.ins)).1,7)):=H3.out HCL.out HCM.out hgp;clear hgp;go_wp2;go_ret2;rw [HR.out];exact ⟨_,rfl,HN4.out.more (fun k hk=>⟨Nat.le_trans hb03.size hk.1,hk.2⟩),hb04⟩
 ·have HR:Hid (R=some ((jct t (boxL b t.ins)).1,8)):=H1.out hcl;clear hcl;go_wp2;go_ret2;rw [HR.out];exact ⟨_,rfl,HN3.out.more (fun k hk=>⟨Nat.le_trans hb02.size hk.1,hk.2⟩),hb03⟩
open Go.Lib (hid)
open Go.RowKit
theorem jwr {b:BookD} (h:4<b.doms.length∨4<b.tabs.length):ja6 b=(noS,[],11):=by unfold ja6;rw [if_pos h]
theorem jwq {b:BookD} (h0:¬ (4<b.doms.length∨4<b.tabs.length)) (h:jda b.doms=false∨jfg b=false):ja6 b=(noS,[],1):=by unfold ja6;rw [if_neg h0,if_pos h]
theorem jws {b:BookD} (h0:¬ (4<b.doms.length∨4<b.tabs.length)) (h1:jda b.doms=true) (h2:jfg b=true):ja6 b=match b.tabs.find? (fun t=>!je0 b t.ins) with
  | some t=>(t.name,[],3)
  | none=>match je4 b.tabs with
   | none=>(noS,[],6)
   | some _=>match b.tabs.find? (fun t=>(badT b t).isSome) with
    | some t=>(t.name,(badT b t).getD ([],0))
    | none=>(noS,[],0):=by
 unfold ja6;rw [if_neg h0,if_neg (by rw [h1,h2];simp)];rfl
def jco (R:ByteArray × List Int × Int) (w:World) (e:Ending) (w':World):Prop:=∃ v,e = .returned (.tuple #[.string R.1,v,.int .i64 R.2.2])∧Sl Enc.int w' (From w.heap.size w') R.2.1 v∧Below w.heap.size w w'
theorem jco.plain {R:ByteArray × List Int × Int} {w w':World} {s:ByteArray} {c:Int} (h:R=(s,[],c)) (hb:Below w.heap.size w w'):jco R w (.returned (.tuple #[.string s,.slice none 0 0,.int .i64 c])) w':=by
 subst h;exact ⟨_,rfl,Sl.nil,hb⟩
theorem jlt (b:BookD) (v:Value) (w:World) (h:jar w (Old w) b v) (hs:jgd b) :
  Calls Tryz.prog 21 #[v] w (jco (ja6 b) w):=by
 have HS:=hid hs;have HB:=hid h;have HX1:Hid ((4<b.doms.length∨4<b.tabs.length)→ja6 b=(noS,[],11)):=jwr;have HX2:Hid (¬ (4<b.doms.length∨4<b.tabs.length)→(jda b.doms=false∨jfg b=false)→ja6 b=(noS,[],1)):=jwq;have HX3:=hid (@jws b);clear hs;generalize ja6 b=R at *;obtain ⟨vd,vt,rfl,h1,h2⟩:=h;have HD:=hid h1;have HTS:=hid h2;obtain ⟨A,c,rfl,hc1,hc2,-⟩:=h1;obtain ⟨B,d,rfl,hd1,hd2,-⟩:=h2;unfold maxLen at hc2 hd2;have hb0:=jaa w (.cells #[.slice A b.doms.length c,.slice B b.tabs.length d] 38);have C0:=hid (Cs.new w [.slice A b.doms.length c,.slice B b.tabs.length d] 38);change Hid (Cs (w.alloc (.cells #[.slice A b.doms.length c,.slice B b.tabs.length d] 38)) _ _) at C0;generalize hw0:w.alloc (.cells #[.slice A b.doms.length c,.slice B b.tabs.length d] 38)=w0 at *;have k0:=C0.out.at 0 rfl;have k1:=C0.out.at 1 rfl;by_cases hd4:4<b.doms.length
 ·have HR:=hid (HX1.out (.inl hd4));have hd4':(4:Int)<b.doms.length:=by omega
  go_enter Tryz.func21,Tryz.ntmps21
  go_wp2;go_ret3
  exact jco.plain HR.out hb0
 have hd4':(b.doms.length:Int)≤4:=by omega
 by_cases ht4:4<b.tabs.length
 ·have HR:=hid (HX1.out (.inr ht4));have ht4':(4:Int)<b.tabs.length:=by omega
  go_enter Tryz.func21,Tryz.ntmps21
  go_wp2;go_ret3
  exact jco.plain HR.out hb0
 have ht4':(b.tabs.length:Int)≤4:=by omega
 have HFU:Hid (¬ (4<b.doms.length∨4<b.tabs.length)):=by rintro (h | h) <;> omega
 clear HX1;go_enter Tryz.func21,Tryz.ntmps21
 go_wp2_with fail
 clear hw0;refine (jst b.doms _ _ (HD.out.onOld hb0) HS.out.1).mono ?_;rintro e w1 ⟨rfl,hb1⟩;have hb01:=bx hb0 hb1;have C1:=hid (C0.out.next hb1);have HB1:=hid (HB.out.onOld hb01);clear k0 k1;have k0:=C1.out.at 0 rfl;have k1:=C1.out.at 1 rfl;cases hgd:jda b.doms
 ·have HR:=hid (HX2.out HFU.out (.inl hgd));clear hgd;go_wp2;go_ret3
  exact jco.plain HR.out hb01
 have HGD:=hid hgd;clear hgd;go_wp2_with fail
 refine (jtw b _ _ HB1.out HS.out).mono ?_;rintro e w2 ⟨rfl,hb2⟩;have hb02:=bx hb01 hb2;have C2:=hid (C1.out.next hb2);have HB2:=hid (HB1.out.onOld hb2);clear k0 k1;have k1:=C2.out.at 1 rfl;cases hgt:jfg b
 ·have HR:=hid (HX2.out HFU.out (.inr hgt));clear hgt;go_wp2;go_ret3
  exact jco.plain HR.out hb02
 have HGT:=hid hgt;have HX:=hid (HX3.out HFU.out HGD.out hgt);have HIL:Hid (∀ t,t∈b.tabs→t.ins.length≤3):=fun t ht=>(jf4.1 (jbi.1 (jg6 hgt ht)).2.2.2.1).2.1;clear hgt HX2 HX3;go_wp2;go_loopw [37] (fun i wr=>∃ k:Nat,k≤b.tabs.length∧i = .int .i64 k∧Hid ((b.tabs.take k).find? (fun t=>!je0 b t.ins)=none)∧Hid (Cs wr w.heap.size [.slice A b.doms.length c,.slice B b.tabs.length d])∧Below w.heap.size w wr) (fun i _=>b.tabs.length-(intOf i).toNat)
 case atStart=>exact ⟨0,Nat.zero_le _,rfl,rfl,C2,hb02⟩
 case round =>
  clear k1 hb0 hb01 hb02 hb1 hb2 C0 C1 C2 HB1 HB2;obtain ⟨k,hk,rfl,hf,CB,hb⟩:=hrel;by_cases hlt:k<b.tabs.length
  ·obtain ⟨bb,o,nm,pol,comp,ins,rules,vi,vr,rfl,hSb,hx,c1,c2,c3,c4,c5,hi,hr⟩:=(HTS.out.onOld hb).tab_at hlt;have HT0:Hid (ja9 wr (Old wr) ⟨nm,pol,comp,ins,rules⟩ (.agg #[.string nm,.int .i64 pol,.bool comp,vi,vr])):=⟨_,_,rfl,hi,hr⟩;obtain ⟨Ai,ci,rfl,-,-⟩:=hi.form;obtain ⟨Ar,cr,rfl,-,-⟩:=hr.form;clear hi hr;have hbz:=jaa wr (.cells #[.string nm,.int .i64 pol,.bool comp,.slice Ai ins.length ci,.slice Ar rules.length cr] 56);have hb2:=bx hb hbz;have CN:=hid (Cs.new wr [.string nm,.int .i64 pol,.bool comp,.slice Ai ins.length ci,.slice Ar rules.length cr] 56);change Hid (Cs (wr.alloc (.cells #[.string nm,.int .i64 pol,.bool comp,.slice Ai ins.length ci,.slice Ar rules.length cr] 56)) _ _) at CN;have CBa:=hid (CB.out.next hbz);have q0:=CN.out.at 0 rfl;have q1:=CN.out.at 1 rfl;have q2:=CN.out.at 2 rfl;have q3:=CN.out.at 3 rfl;have q4:=CN.out.at 4 rfl;have k0:=CBa.out.at 0 rfl;have k1:=CBa.out.at 1 rfl;have HBa:=hid (HB.out.onOld hb2);have HTa:=hid (HT0.out.onOld hbz);have HIN:Hid (ins.length≤3):=HIL.out _ (List.mem_of_getElem? hx.out);generalize hwa:wr.alloc (.cells #[.string nm,.int .i64 pol,.bool comp,.slice Ai ins.length ci,.slice Ar rules.length cr] 56)=wa at *;go_wp2_with fail
   clear hwa;refine (ye6 b ⟨nm,pol,comp,ins,rules⟩ _ _ _ HBa.out HTa.out HS.out HIN.out).mono ?_;rintro e w3 ⟨v3,rfl,hn3,hb3⟩;obtain ⟨A3,c3',rfl,-,-⟩:=hn3.form;have hb03:=bx hb2 hb3;have CN3:=hid (CN.out.next hb3);have CB3:=hid (CBa.out.next hb3);have r0:=CN3.out.at 0 rfl;have HBV:Hid ((boxV b ⟨nm,pol,comp,ins,rules⟩).2=je0 b ins):=by show (boxV b ⟨nm,pol,comp,ins,rules⟩).2=_;unfold boxV;cases je0 b ins <;> rfl
   clear hn3 q0 q1 q2 q3 q4 k0 k1;rw [HBV.out];cases hok:je0 b ins
   ·have HR:Hid (R=(nm,[],3)):=by
     show R=_
     rw [HX.out,jlk (p:=fun t:TabD=>!je0 b t.ins) hf.out hx.out (by simp [hok])]
    clear hok;go_wp2;go_ret3
    exact jco.plain HR.out hb03
   ·have HN:=hid (jf3 (p:=fun t:TabD=>!je0 b t.ins) hf.out hx.out (by simp [hok]));clear hok;go_wp2;exact ⟨⟨k+1,by omega,by go_num,HN,CB3,hb03⟩,by simp [intOf];omega⟩
  ·have e:b.tabs.take k=b.tabs:=List.take_of_length_le (by omega);have hf':=hf.out;rw [e] at hf';have HX4:=HX.out;rw [hf'] at HX4;simp only at HX4;have HX5:=hid HX4;have HBO:Hid (∀ t,t∈b.tabs→je0 b t.ins=true):=fun t ht=>by simpa using List.find?_eq_none.1 hf' t ht
   clear HX hf' HX4 hf e;have HBa:=hid (HB.out.onOld hb);have k0:=CB.out.at 0 rfl;have k1:=CB.out.at 1 rfl;have HND:=hid (jin HGT.out);go_wp2_with fail
   refine (jod b _ _ HBa.out HS.out HND.out (by omega)).mono ?_;rintro e w3 ⟨v3,rfl,hn3,hb3⟩;obtain ⟨A3,c3',rfl,-,-⟩:=hn3.form;have hb03:=bx hb hb3;have CB3:=hid (CB.out.next hb3);clear hn3 k0 k1;have k1:=CB3.out.at 1 rfl;cases ho:je4 b.tabs with
   | none =>
    have HR:Hid (R=(noS,[],6)):=by show R=_;rw [HX5.out,ho]
    clear ho;simp only [Option.isSome_none];go_wp2;go_ret3
    exact jco.plain HR.out hb03
   | some ol =>
    have HX6:Hid (R=match b.tabs.find? (fun t=>(badT b t).isSome) with | some t=>(t.name,(badT b t).getD ([],0)) | none=>(noS,[],0)):=by show R=_;rw [HX5.out,ho]
    clear ho HX5;simp only [Option.isSome_some];go_wp2;go_loopw [62] (fun i wr=>∃ k:Nat,k≤b.tabs.length∧i = .int .i64 k∧Hid ((b.tabs.take k).find? (fun t=>(badT b t).isSome)=none)∧Hid (Cs wr w.heap.size [.slice A b.doms.length c,.slice B b.tabs.length d])∧Below w.heap.size w wr) (fun i _=>b.tabs.length-(intOf i).toNat)
    case atStart=>exact ⟨0,Nat.zero_le _,rfl,rfl,CB3,hb03⟩
    case round =>
     clear k1 hb03 hb3 CB3 HBa hb CB;rename World=>wr;obtain ⟨k,hk,rfl,hf,CB,hb⟩:=hrel;by_cases hlt:k<b.tabs.length
     ·obtain ⟨bb,o,nm,pol,comp,ins,rules,vi,vr,rfl,hSb,hx,c1,c2,c3,c4,c5,hi,hr⟩:=(HTS.out.onOld hb).tab_at hlt;have HT0:Hid (ja9 wr (Old wr) ⟨nm,pol,comp,ins,rules⟩ (.agg #[.string nm,.int .i64 pol,.bool comp,vi,vr])):=⟨_,_,rfl,hi,hr⟩;obtain ⟨Ai,ci,rfl,-,-⟩:=hi.form;obtain ⟨Ar,cr,rfl,-,-⟩:=hr.form;clear hi hr;have hbz:=jaa wr (.cells #[.string nm,.int .i64 pol,.bool comp,.slice Ai ins.length ci,.slice Ar rules.length cr] 56);have hb2:=bx hb hbz;have CN:=hid (Cs.new wr [.string nm,.int .i64 pol,.bool comp,.slice Ai ins.length ci,.slice Ar rules.length cr] 56);change Hid (Cs (wr.alloc (.cells #[.string nm,.int .i64 pol,.bool comp,.slice Ai ins.length ci,.slice Ar rules.length cr] 56)) _ _) at CN;have CBa:=hid (CB.out.next hbz);have q0:=CN.out.at 0 rfl;have q1:=CN.out.at 1 rfl;have q2:=CN.out.at 2 rfl;have q3:=CN.out.at 3 rfl;have q4:=CN.out.at 4 rfl;have k0:=CBa.out.at 0 rfl;have k1:=CBa.out.at 1 rfl;have HBa:=hid (HB.out.onOld hb2);have HTa:=hid (HT0.out.onOld hbz);have hmem:=List.mem_of_getElem? hx.out;have HIN:Hid (ins.length≤3):=HIL.out _ hmem;have HBK:Hid (je0 b ins=true):=HBO.out _ hmem;have HST:=hid (HS.out.2 _ hmem);clear hmem;generalize hwa:wr.alloc (.cells #[.string nm,.int .i64 pol,.bool comp,.slice Ai ins.length ci,.slice Ar rules.length cr] 56)=wa at *;go_wp2_with fail
      clear hwa;refine (jtv b ⟨nm,pol,comp,ins,rules⟩ _ _ _ HBa.out HTa.out HS.out HST.out HIN.out HBK.out).mono ?_;rintro e w3 ⟨v3,rfl,hn3,hb3⟩;have HN3:=hid hn3;obtain ⟨A3,c3',rfl,-,-⟩:=hn3.form;have hb03:=bx hb2 hb3;have CN3:=hid (CN.out.next hb3);have CB3:=hid (CBa.out.next hb3);have r0:=CN3.out.at 0 rfl;clear hn3 q0 q1 q2 q3 q4 k0 k1;cases hbt:badT b ⟨nm,pol,comp,ins,rules⟩ with
      | none =>
       have HN:=hid (jf3 (p:=fun t:TabD=>(badT b t).isSome) hf.out hx.out (by simp [hbt]));clear hbt;simp only [Option.getD_none];go_wp2;exact ⟨⟨k+1,by omega,by go_num,HN,CB3,hb03⟩,by simp [intOf];omega⟩
      | some r =>
       obtain ⟨at',code⟩:=r;have HR:Hid (R=(nm,at',code)):=by
        show R=_
        rw [HX6.out,jlk (p:=fun t:TabD=>(badT b t).isSome) hf.out hx.out (by simp [hbt])];simp [hbt]
       have HCD:code=8∨code=7:=by
        unfold badT at hbt;split at hbt
        ·injection hbt with hbt;injection hbt with _ h;exact .inl h.symm
        ·split at hbt
         ·injection hbt with hbt;injection hbt with _ h;exact .inr h.symm
         ·cases hbt
       rw [hbt] at HN3;simp only [Option.getD_some] at HN3 ⊢;clear hbt;rcases HCD with rfl | rfl
       ·go_wp2;go_ret3
        rw [HR.out];exact ⟨_,rfl,HN3.out.more (fun k hk=>⟨Nat.le_trans hb2.size hk.1,hk.2⟩),hb03⟩
       ·go_wp2;go_ret3
        rw [HR.out];exact ⟨_,rfl,HN3.out.more (fun k hk=>⟨Nat.le_trans hb2.size hk.1,hk.2⟩),hb03⟩
     ·have e:b.tabs.take k=b.tabs:=List.take_of_length_le (by omega);have hf':=hf.out;rw [e] at hf';have HR:Hid (R=(noS,[],0)):=by show R=_;rw [HX6.out,hf']
      clear hf';go_wp2;go_ret3
      exact jco.plain HR.out hb
open Go.Lib (hid)
open Go.RowKit
theorem jlj:Tryz.prog.underlying 111=some (.map 9 60):=by kernel_rfl
theorem jwe (w:World):(zeroValue 60).run Tryz.prog w = .ok (jj8 jjg) w:=by kernel_rfl
theorem yqc (w:World):(Instr.makeMap 111 none).run Tryz.prog w = .ok (.map (some w.heap.size)) (w.alloc (.map #[] 0)):=rfl
theorem ynr {w:World} {b n c:Nat} {k:ByteArray→Option AnsD} (h:MapS Tryz.prog 9 w b n c (ansF k)) (s:ByteArray) (hs:s.size≤maxLen) :
  (Instr.lookup 111 (.map (some b)) (.string s) false).run Tryz.prog w = .ok (jj8 ((k s).getD jjg)) w:=by
 rw [h.look Tryz.underlying9 jlj (jwe w) hs,jya]
theorem jgu {P:Program} (w:World) {ops:Array Oper} {rest:List Oper} {o:Oper} {a:Act} {Q:Exit→Act→World→Prop} (hg:o.guard=none) (x:Operand) (t:TypeId) (i:Nat) (hop:o.op=Op.field t x i) (u v:Value) (hx:a.eval x=u) (hrun:(Instr.field t u i).run P w = .ok v w)
  (hK:wpList P ops Q rest (a.put o.dst v) w):wpList P ops Q (o :: rest) a w:=by
 refine wpList_plain hg fun K' hK'=>?_;unfold Oper.wp;simp [execOp,hop,hx,hrun,Result.andThen];exact hK' _ _ hK
theorem jrb (s:ByteArray) (f:Bool) (n:Int) (w:World):(Instr.field 60 (.agg #[.string s,.bool f,.int .i64 n]) 1).run Tryz.prog w = .ok (.bool f) w:=by kernel_rfl
theorem joa (s:ByteArray) (f:Bool) (n:Int) (w:World):(Instr.field 60 (.agg #[.string s,.bool f,.int .i64 n]) 2).run Tryz.prog w = .ok (.int .i64 n) w:=by kernel_rfl
theorem yfx {fn:Func} {p:Tmp} {tmps:Array Value} {W:World} {b:Nat} {x y z:Value} (h:fn.results = #[.cell p 60]) (hp:tmps.getD p undef = .pointer (some ⟨b,0,none⟩)) (ht:Cs W b [x,y,z]) :
  (results fn tmps).run Tryz.prog W = .ok (.agg #[x,y,z]) W:=by
 have q0:=ht.at 0 rfl;have q1:=ht.at 1 rfl;have q2:=ht.at 2 rfl;have hp':tmps[p]?.getD undef = .pointer (some ⟨b,0,none⟩):=by simpa using hp
 simp [results,h,hp',go_sem,q0,q1,q2]
theorem ye0 {α:Type} {f:α→Bool} {l:List α} {k:Nat} {x:α} (h0:(l.take k).all f=true) (h:l[k]? = some x) (hx:f x=true):(l.take (k+1)).all f=true:=by
 rw [jai h,List.all_append,h0];simp [hx]
theorem yqd {α:Type} {f:α→Bool} {l:List α} {k:Nat} {x:α} (h:l[k]? = some x) (hx:f x=false):l.all f=false :=
 List.all_eq_false.2 ⟨x,List.mem_of_getElem? h,by rw [hx];simp⟩
theorem yc7 (K:ByteArray→Option AnsD) (t:TabD) (v:Value) (w:World) (mb n c:Nat) (h:MapS Tryz.prog 9 w mb n c (ansF K)) (ht:ja9 w (Old w) t v) (hs:jdm t) (hl:t.ins.length≤3) :
  Calls Tryz.prog 57 #[v,.map (some mb)] w fun e w'=>e = .returned (jj8 (jgl K t))∧Below w.heap.size w w':=by
 have HM:=hid h;have HST:=hid hs;have HSI:=hid (jn0 hs);have HT:=hid ht;have HE1:Hid (t.ins.all (jck K)=false→jgl K t=(t.name,false,0)):=fun hh=>by unfold jgl;rw [if_neg (by rw [hh];decide)]
 have HE2:Hid (t.ins.all (jck K)=true→jgl K t=(t.name,(jb5 t (t.ins.map (numA K))).2.1,(jb5 t (t.ins.map (numA K))).1)):=fun hh=>by unfold jgl;rw [if_pos hh]
 generalize jgl K t=R at *;clear h hs;obtain ⟨vi,vr,rfl,hi,hr⟩:=ht;have HI:=hid hi;obtain ⟨Ai,ci,rfl,hi1,hi2,-⟩:=hi;obtain ⟨Ar,cr,rfl,hr1,hr2,-⟩:=hr;unfold maxLen at hi2;have hb0:=jaa w (.cells #[.string t.name,.int .i64 t.pol,.bool t.comp,.slice Ai t.ins.length ci,.slice Ar t.rules.length cr] 56);have C0:=hid (Cs.new w [.string t.name,.int .i64 t.pol,.bool t.comp,.slice Ai t.ins.length ci,.slice Ar t.rules.length cr] 56);have hz0:(w.alloc (.cells #[.string t.name,.int .i64 t.pol,.bool t.comp,.slice Ai t.ins.length ci,.slice Ar t.rules.length cr] 56)).heap.size=w.heap.size+1:=by simp
 change Hid (Cs (w.alloc (.cells #[.string t.name,.int .i64 t.pol,.bool t.comp,.slice Ai t.ins.length ci,.slice Ar t.rules.length cr] 56)) _ _) at C0;generalize hw0:w.alloc (.cells #[.string t.name,.int .i64 t.pol,.bool t.comp,.slice Ai t.ins.length ci,.slice Ar t.rules.length cr] 56)=w0 at *;have hb1:=jaa w0 (.cells #[.string ⟨#[]⟩,.bool false,.int .i64 0] 60);have C1:=hid (Cs.new w0 [.string ⟨#[]⟩,.bool false,.int .i64 0] 60);have hz1:(w0.alloc (.cells #[.string ⟨#[]⟩,.bool false,.int .i64 0] 60)).heap.size=w.heap.size+2:=by simp;omega
 change Hid (Cs (w0.alloc (.cells #[.string ⟨#[]⟩,.bool false,.int .i64 0] 60)) _ _) at C1;rw [hz0] at C1;generalize hw1:w0.alloc (.cells #[.string ⟨#[]⟩,.bool false,.int .i64 0] 60)=w1 at *;have hb2:=jaa w1 (.cells #[.string t.name,.bool false,.int .i64 0] 60);have C2:=hid (Cs.new w1 [.string t.name,.bool false,.int .i64 0] 60);change Hid (Cs (w1.alloc (.cells #[.string t.name,.bool false,.int .i64 0] 60)) _ _) at C2;rw [hz1] at C2;have C12:=hid (C1.out.next hb2);have C01:=hid (C0.out.next hb1);have C02:=hid (C01.out.next hb2);have hb02:=bx hb0 (bx hb1 hb2);have k0:=C01.out.at 0 rfl;have k3:=C02.out.at 3 rfl;go_enter Tryz.func57,Tryz.ntmps57
 go_wp2;generalize hw2:w1.alloc (.cells #[.string t.name,.bool false,.int .i64 0] 60)=w2 at *;go_loopw [6,15] (fun u i wr=>∃ k:Nat,k≤t.ins.length∧i = .int .i64 k∧Hid (OwnG Enc.int wr w2.heap.size w2.heap.size 3 u ((t.ins.take k).map (numA K)))∧Hid ((t.ins.take k).all (jck K)=true)∧Below w2.heap.size w2 wr) (fun _ i _=>t.ins.length-(intOf i).toNat)
 case atStart=>exact ⟨0,Nat.zero_le _,rfl,OwnG.nil,rfl,Below.refl _ _⟩
 case round =>
  clear hw0 hw1 hw2 k0 k3 hb0 hb1 hb2;obtain ⟨k,hk,rfl,HO,HF,hbl⟩:=hrel;have hb:=bx hb02 hbl;have C0r:=hid (C02.out.next hbl);have C1r:=hid (C12.out.next hbl);have C2r:=hid (C2.out.next hbl);have HMr:=hid (HM.out.below hb);by_cases hlt:k<t.ins.length
  ·obtain ⟨bb,o,x,rfl,_,hx,c1⟩:=(HI.out.onOld hb).str_at hlt;have HSX:=hid (HSI.out x (List.mem_of_getElem? hx.out));have hlk:=jya K x;have HFO:=hid (ya0 K x);have HNU:=hid (yle K x);obtain ⟨⟨an,af,am⟩,hq⟩:∃ q:AnsD,q=(K x).getD jjg:=⟨_,rfl⟩;rw [← hq] at hlk HFO HNU;clear hq;rw [show jj8 (an,af,am) = .agg #[.string an,.bool af,.int .i64 am] from rfl] at hlk;have HLK:=hid hlk;clear hlk;simp only at HFO HNU;have p0:=C2r.out.at 0 rfl;have p1:=C2r.out.at 1 rfl;have p2:=C2r.out.at 2 rfl;have r0:=C1r.out.at 0 rfl;have r1:=C1r.out.at 1 rfl;have r2:=C1r.out.at 2 rfl;have f0:=C1r.out.2.2 0 (by decide);have f1:=C1r.out.2.2 1 (by decide);have f2:=C1r.out.2.2 2 (by decide);cases af
   ·have HR:Hid (R=(t.name,false,0)):=HE1.out (yqd hx.out HFO.out.symm);go_wp2_with (at_lookup;refine jlg _ rfl _ _ 111 rfl 9 60 Tryz.underlying9 jlj (jwe _) mb n c (ansF K) rfl HMr.out x rfl HSX.out (.agg #[.string an,.bool false,.int .i64 am]) HLK.out ?_;first | refine jgu _ rfl _ 60 1 rfl _ _ rfl (jrb an false am _) ?_ | refine jgu _ rfl _ 60 2 rfl _ _ rfl (joa an false am _) ?_)
    (try simp only [Exit.inBlock,Exit.then])
    refine bodyPost_ret (yfx (b:=w.heap.size+1) rfl rfl (((C1r.out.set 0 (by simp) _).set 1 (by simp) _).set 2 (by simp) _)) rfl ⟨?_,((hb.setCell (by simp) _).setCell (by simp) _).setCell (by simp) _⟩;rw [HR.out];rfl
   ·have HF2:=hid (ye0 HF.out hx.out HFO.out.symm);have hbz:=jaa wr (.cells #[.int .i64 am] 3);have HOa:=hid (HO.out.alloc (.cells #[.int .i64 am] 3));have hbz2:=bx hbl hbz;have hszz:=hbz2.size;have hlen:((t.ins.take k).map (numA K)).length≤3:=by rw [List.length_map,List.length_take];omega
    go_wp2_with (first | (at_lookup;refine jlg _ rfl _ _ 111 rfl 9 60 Tryz.underlying9 jlj (jwe _) mb n c (ansF K) rfl HMr.out x rfl HSX.out (.agg #[.string an,.bool true,.int .i64 am]) HLK.out ?_;first | refine jgu _ rfl _ 60 1 rfl _ _ rfl (jrb an true am _) ?_ | refine jgu _ rfl _ 60 2 rfl _ _ rfl (joa an true am _) ?_) | (at_builtin;refine jaf (E:=Enc.int) _ rfl _ _ 22 rfl w2.heap.size w2.heap.size 3 8 (.int .i64 0) jc6 jfy rfl (by decide) _ _ rfl HOa.out ⟨wr.heap.size,0,none⟩ am [.int .i64 am] rfl rfl (cell_one_new _ _ _) (by omega) (by unfold maxLen;omega) hszz ?_;intro v' w5 hown' hgrow5 hmv5))
    refine ⟨⟨k+1,by omega,by go_num,?_,HF2,hbz2.grown hgrow5 hszz (fun _ hr=>(HOa.out.lt _ hr).1)⟩,by simp [intOf];omega⟩
    show OwnG _ _ _ _ _ _ _
    rw [jai hx.out,List.map_append];have e:numA K x=am:=HNU.out.symm;simp only [List.map_cons,List.map_nil,e];exact hown'
  ·have e:t.ins.take k=t.ins:=List.take_of_length_le (by omega);rw [e] at HO HF;clear e;have HR:=hid (HE2.out HF.out);have q0:=C0r.out.at 0 rfl;have q1:=C0r.out.at 1 rfl;have q2:=C0r.out.at 2 rfl;have q3:=C0r.out.at 3 rfl;have q4:=C0r.out.at 4 rfl;have HTr:=hid (HT.out.onOld hb);have HSL:=hid (HO.out.slOld (Nat.le_refl _));go_wp2_with fail
   refine (jdv t _ _ _ _ HTr.out HSL.out HST.out).mono ?_;rintro e w3 ⟨rfl,hb3⟩;have hb03:=bx hb hb3;have C1s:=hid (C1r.out.next hb3);have C2s:=hid (C2r.out.next hb3);clear q0 q1 q2 q3 q4;generalize jb5 t (t.ins.map (numA K))=q at *;obtain ⟨n1,n2,n3⟩:=q;simp only at HR ⊢;have p0:=C2s.out.at 0 rfl;have p1:=C2s.out.at 1 rfl;have p2:=C2s.out.at 2 rfl;have g1:=C2s.out.2.2 1 (by simp);have g2:=C2s.out.2.2 2 (by simp);have D2:=hid ((C2s.out.set 2 (by simp) (.int .i64 n1)).set 1 (by simp) (.bool n2));have D1:=hid (((C1s.out.keep (w':=w3.setCell ⟨w.heap.size+2,2,none⟩ (.int .i64 n1)) (RowKit.Below.heap_setCell _ _ _ _ (by show w.heap.size+1≠w.heap.size+2;omega)) (by simp [World.setCell])).keep (w':=(w3.setCell ⟨w.heap.size+2,2,none⟩ (.int .i64 n1)).setCell ⟨w.heap.size+2,1,none⟩ (.bool n2)) (RowKit.Below.heap_setCell _ _ _ _ (by show w.heap.size+1≠w.heap.size+2;omega)) (by simp [World.setCell])));have e0:=D2.out.at 0 rfl;have e1:=D2.out.at 1 rfl;have e2:=D2.out.at 2 rfl;have r0:=D1.out.at 0 rfl;have r1:=D1.out.at 1 rfl;have r2:=D1.out.at 2 rfl;have f0:=D1.out.2.2 0 (by decide);have f1:=D1.out.2.2 1 (by decide);have f2:=D1.out.2.2 2 (by decide);go_wp2
   (try simp only [Exit.inBlock,Exit.then])
   refine bodyPost_ret (yfx (b:=w.heap.size+1) rfl rfl (((D1.out.set 0 (by simp) _).set 1 (by simp) _).set 2 (by simp) _)) rfl ⟨?_,((((hb03.setCell (by simp) _).setCell (by simp) _).setCell (by simp) _).setCell (by simp) _).setCell (by simp) _⟩;rw [HR.out];rfl
open Go.Lib (hid)
open Go.RowKit
def Enc.ans:Enc AnsD:=Enc.str.pair (Enc.bool.pair Enc.int)
theorem Enc.ans_rd {w:World} {S:Nat→Prop} {d:AnsD} {cs:List Value}:Enc.ans.rd w S d cs↔cs = [.string d.1,.bool d.2.1,.int .i64 d.2.2]:=by
 constructor
 ·rintro ⟨c1,_,rfl,h1,c2,c3,rfl,h2,h3⟩;have h1':c1 = [.string d.1]:=h1;have h2':c2 = [.bool d.2.1]:=h2;have h3':c3 = [.int .i64 d.2.2]:=h3;subst h1' h2' h3';rfl
 ·rintro rfl;exact ⟨[.string d.1],_,rfl,rfl,[.bool d.2.1],_,rfl,rfl,rfl⟩
theorem Sl.ans_at {w:World} {S:Nat→Prop} {l:List AnsD} {A:Option Addr} {n c:Nat} (h:Sl Enc.ans w S l (.slice A n c)) {k:Nat} (hk:k<l.length) :
  ∃ b o nm f m,A=some ⟨b,o,none⟩∧S b∧Hid (l[k]? = some (nm,f,m))∧w.cell? ⟨b,o+k*3,none⟩=some (.string nm)∧w.cell? ⟨b,o+k*3+1,none⟩=some (.bool f)∧w.cell? ⟨b,o+k*3+2,none⟩=some (.int .i64 m):=by
 obtain ⟨b,o,cs,rfl,hS,hr,hc⟩:=h.at hk;rw [Enc.ans_rd] at hr;subst hr;exact ⟨b,o,l[k].1,l[k].2.1,l[k].2.2,rfl,hS,List.getElem?_eq_getElem hk,hc 0 _ rfl,hc 1 _ rfl,hc 2 _ rfl⟩
theorem jz6:Tryz.prog.underlying 28=some (.slice 60):=by kernel_rfl
theorem ye1:(Tryz.prog.info? 60).map (fun i=>(i.zero,i.size,i.bytes))=some (some (.agg #[.string ⟨#[]⟩,.bool false,.int .i64 0]),3,32):=by kernel_rfl
theorem yai (w:World) (x y z:Value) (e:Nat):∀ j u,[x,y,z][j]? = some u→(w.alloc (.cells #[x,y,z] e)).cell? ((⟨w.heap.size,0,none⟩:Addr).add j)=some u:=by
 intro j u hu;have ea:(⟨w.heap.size,0,none⟩:Addr).add j = ⟨w.heap.size,0+j,none⟩:=by unfold Addr.add;split <;> simp_all
 rw [ea,Nat.zero_add];exact jab _ _ _ _ _ (by simpa using hu)
def jjh (R:List AnsD × Int) (w:World) (e:Ending) (w':World):Prop:=∃ v,e = .returned (.tuple #[v,.int .i64 R.2])∧Sl Enc.ans w' (From w.heap.size w') R.1 v∧Below w.heap.size w w'
theorem jjh.no {R:List AnsD × Int} {w w':World} {c:Int} (h:R=([],c)) (hb:Below w.heap.size w w'):jjh R w (.returned (.tuple #[.slice none 0 0,.int .i64 c])) w':=by
 subst h;exact ⟨_,rfl,Sl.nil,hb⟩
theorem yaq {d:DomD} {n:Int}:∀ (ds:List DomD) (l:List Int) (K:ByteArray→Option AnsD),ds.length=l.length→domK (ds ++ [d]) (l ++ [n]) K=putA (domK ds l K) d.1 (d.1,true,n)
 | [],[],K,_=>rfl
 | a :: ds,m :: l,K,h=>by simp only [List.cons_append,domK];exact yaq ds l _ (by simpa using h)
 | [],_ :: _,_,h=>by simp at h
 | _ :: _,[],_,h=>by simp at h
theorem jud {d:DomD} {n:Int}:∀ (ds:List DomD) (l:List Int),ds.length=l.length→jdf (ds ++ [d]) (l ++ [n])=(jdf ds l && (decide (d.2.1≤n) && decide (n≤d.2.2)))
 | [],[],_=>by simp [jdf]
 | a :: ds,m :: l,h=>by simp only [List.cons_append,jdf];rw [jud ds l (by simpa using h)];simp [Bool.and_assoc]
 | [],_ :: _,h=>by simp at h
 | _ :: _,[],h=>by simp at h
theorem jsh:∀ {ds:List DomD} {l:List Int} (k:Nat),jdf ds l=true→jdf (ds.take k) (l.take k)=true
 | [],l,k,_=>by simp [jdf]
 | a :: ds,[],k,_=>by cases k <;> simp [jdf]
 | a :: ds,m :: l,0,_=>rfl
 | a :: ds,m :: l,k+1,h=>by
  simp only [jdf,Bool.and_eq_true] at h;simp only [List.take_succ_cons,jdf,Bool.and_eq_true];exact ⟨h.1,jsh k h.2⟩
theorem jyl {ds:List DomD} {l:List Int} (hl:ds.length=l.length) {k:Nat} {d:DomD} {n:Int} (h:ds[k]? = some d) (h':l[k]? = some n) (K:ByteArray→Option AnsD) :
  domK (ds.take (k+1)) (l.take (k+1)) K=putA (domK (ds.take k) (l.take k) K) d.1 (d.1,true,n)∧jdf (ds.take (k+1)) (l.take (k+1))=(jdf (ds.take k) (l.take k) && (decide (d.2.1≤n) && decide (n≤d.2.2))):=by
 have e:(ds.take k).length=(l.take k).length:=by rw [List.length_take,List.length_take,hl]
 rw [jai h,jai h'];exact ⟨yaq _ _ _ e,jud _ _ e⟩
theorem ybd {ds:List DomD} {l:List Int} (hl:ds.length=l.length) {k:Nat} {d:DomD} {n:Int} (h:ds[k]? = some d) (h':l[k]? = some n) (hx:(decide (d.2.1≤n) && decide (n≤d.2.2))=false):jdf ds l=false:=by
 cases hh:jdf ds l
 ·rfl
 ·have:=jsh (k+1) hh
  rw [(jyl hl h h' (fun _=>none)).2,hx] at this;simp at this
theorem jz7 {ts:List TabD} {s:ByteArray}:∀ (l:List ByteArray) (K:ByteArray→Option AnsD),askK ts (l ++ [s]) K=putA (askK ts l K) s (jgl (askK ts l K) ((jb3 ts s).getD je1))
 | [],K=>rfl
 | a :: l,K=>by simp only [List.cons_append,askK];exact jz7 l _
theorem jz8 {b:BookD} {l:List Int} (h:(ja6 b).2.2≠0):askV b l=([],(ja6 b).2.2):=by unfold askV;rw [if_pos h]
theorem yjd {b:BookD} {l:List Int} (h:(ja6 b).2.2=0) (hl:l.length≠b.doms.length):askV b l=([],1):=by unfold askV;rw [if_neg (by simp [h]),if_pos hl]
theorem jz9 {b:BookD} {l:List Int} (h:(ja6 b).2.2=0) (hl:l.length=b.doms.length) (hi:jdf b.doms l=false):askV b l=([],2):=by unfold askV;rw [if_neg (by simp [h]),if_neg (by simp [hl]),if_pos hi]
theorem yjc {b:BookD} {l:List Int} (h:(ja6 b).2.2=0) (hl:l.length=b.doms.length) (hi:jdf b.doms l=true):askV b l=(ansL b l,0):=by unfold askV;rw [if_neg (by simp [h]),if_neg (by simp [hl]),if_neg (by simp [hi])];rfl
open Go.Lib (hid)
open Go.RowKit
theorem MapS.ansPut {w':World} {mb n c:Nat} {K:ByteArray→Option AnsD} {s:ByteArray} {a:AnsD} (hm:MapS Tryz.prog 9 w' mb (n+1) (if (ansF K s).isSome then c else c+1) (fun x=>if jap x s then some (jj8 a) else ansF K x)):∃ cc,MapS Tryz.prog 9 w' mb (n+1) cc (ansF (putA K s a)) :=
 ⟨_,hm.congr fun x=>ynq K s x a⟩
theorem jmg (b:BookD) (l:List Int) (v vl:Value) (w:World) (h:jar w (Old w) b v) (hl:Sl Enc.int w (Old w) l vl) (hs:jgd b) :
  Calls Tryz.prog 23 #[v,vl] w (jjh (askV b l) w):=by
 have HS:=hid hs;have HB:=hid h;have HL:=hid hl;have HX1:Hid ((ja6 b).2.2≠0→askV b l=([],(ja6 b).2.2)):=jz8;have HX2:Hid ((ja6 b).2.2=0→l.length≠b.doms.length→askV b l=([],1)):=yjd;have HX3:Hid ((ja6 b).2.2=0→l.length=b.doms.length→jdf b.doms l=false→askV b l=([],2)):=jz9;have HX4:Hid ((ja6 b).2.2=0→l.length=b.doms.length→jdf b.doms l=true→askV b l=(ansL b l,0)):=yjc;clear hs;generalize askV b l=R at *;obtain ⟨vd,vt,rfl,h1,h2⟩:=h;have HD:=hid h1;have HTS:=hid h2;obtain ⟨A,c,rfl,hc1,hc2,-⟩:=h1;obtain ⟨B,d,rfl,hd1,hd2,-⟩:=h2;obtain ⟨L,e,rfl,he1,he2,-⟩:=hl;unfold maxLen at hc2 hd2 he2;have hb0:=jaa w (.cells #[.slice A b.doms.length c,.slice B b.tabs.length d] 38);have C0:=hid (Cs.new w [.slice A b.doms.length c,.slice B b.tabs.length d] 38);change Hid (Cs (w.alloc (.cells #[.slice A b.doms.length c,.slice B b.tabs.length d] 38)) _ _) at C0;generalize hw0:w.alloc (.cells #[.slice A b.doms.length c,.slice B b.tabs.length d] 38)=w0 at *;have k0:=C0.out.at 0 rfl;have k1:=C0.out.at 1 rfl;have HB0:=hid (HB.out.onOld hb0);go_enter Tryz.func23,Tryz.ntmps23
 go_wp2_with fail
 clear hw0;refine (jlt b _ _ HB0.out HS.out).mono ?_;rintro ee w1 ⟨v1,rfl,hn1,hb1⟩;obtain ⟨A1,c1,rfl,-,-⟩:=hn1.form;clear hn1 k0 k1;have hb01:=bx hb0 hb1;have C1:=hid (C0.out.next hb1);have k0:=C1.out.at 0 rfl;have k1:=C1.out.at 1 rfl;by_cases hcd:¬ (ja6 b).2.2=0
 ·have HR:=hid (HX1.out hcd);generalize (ja6 b).2.2=cd at *;have hcd':(cd == 0)=false:=by simpa using hcd
  go_wp2;go_ret2;exact jjh.no HR.out hb01
 have hcd:=Decidable.not_not.1 hcd;have HC0:=hid hcd;rw [hcd];clear hcd HX1;by_cases hll:¬ l.length=b.doms.length
 ·have HR:=hid (HX2.out HC0.out hll);have hll':((l.length:Int) == (b.doms.length:Int))=false:=beq_eq_false_iff_ne.2 (by omega);go_wp2;go_ret2;exact jjh.no HR.out hb01
 have hll:=Decidable.not_not.1 hll;have HLL:=hid hll;have hll':((l.length:Int) == (b.doms.length:Int))=true:=by rw [beq_iff_eq];omega
 have HX5:=hid (HX3.out HC0.out hll);have HX6:=hid (HX4.out HC0.out hll);have HOK:=hid (jfx HC0.out);have hd4:b.doms.length≤4:=HOK.out.1;have ht4:b.tabs.length≤4:=HOK.out.2.1;have hl4:l.length≤4:=by omega
 clear HX2 HX3 HX4 hll;have hbm:=jaa w1 (.map #[] 0);have M1:=hid (MapS.made Tryz.prog 9 w1);have hmk:=yqc w1;have CM:=hid (C1.out.next hbm);have hb0m:=bx hb01 hbm;generalize hwm:w1.alloc (.map #[] 0)=wm at *;have km0:=CM.out.at 0 rfl;have hmbw:w.heap.size<w1.heap.size:=C1.out.1;go_wp2;have hne:((l.length:Int) != (b.doms.length:Int))=false:=by simp only [bne,hll'];rfl
 simp only [hne];go_loopw [40] (fun i wr=>∃ k cc:Nat,k≤b.doms.length∧i = .int .i64 k∧Hid (MapS Tryz.prog 9 wr w1.heap.size k cc (ansF (domK (b.doms.take k) (l.take k) fun _=>none)))∧Hid (jdf (b.doms.take k) (l.take k)=true)∧Hid (Cs wr w.heap.size [.slice A b.doms.length c,.slice B b.tabs.length d])∧Below w.heap.size w wr) (fun i _=>b.doms.length-(intOf i).toNat)
 case atStart=>exact ⟨0,0,Nat.zero_le _,rfl,M1,rfl,CM,hb0m⟩
 case round =>
  clear k0 k1 km0 hmk hwm hbm hb0m hb01 hb0 hb1 HB0 C0 C1 CM M1 hll';obtain ⟨k,cc,hk,rfl,HM,HIN,CB,hb⟩:=hrel;by_cases hlt:k<b.doms.length
  ·obtain ⟨bb,o,nm,lo,hi,rfl,hSb,hx,c1,c2,c3⟩:=(HD.out.onOld hb).dom_at hlt;obtain ⟨bi,oi,nn,rfl,hSi,hxn,ci⟩:=(HL.out.onOld hb).num_at (k:=k) (by have:=HLL.out;omega);have hbz:=jaa wr (.cells #[.string nm,.int .i64 lo,.int .i64 hi] 58);have hb2:=bx hb hbz;have CN:=hid (Cs.new wr [.string nm,.int .i64 lo,.int .i64 hi] 58);change Hid (Cs (wr.alloc (.cells #[.string nm,.int .i64 lo,.int .i64 hi] 58)) _ _) at CN;have CBa:=hid (CB.out.next hbz);have HMa:=hid (HM.out.below hbz);have q0:=CN.out.at 0 rfl;have q1:=CN.out.at 1 rfl;have q2:=CN.out.at 2 rfl;have cia:=(hbz.cell (p:=⟨bi,oi+k,none⟩) hSi).trans ci;have HNM:Hid (nm.size≤maxLen):=by have:=HS.out.1 _ (List.mem_of_getElem? hx.out);show _≤_;unfold maxLen;simp only at this;omega
   have HDM:=hid (jyl HLL.out.symm hx.out hxn.out (fun _=>none));have HDN:=hid (ybd HLL.out.symm hx.out hxn.out);have hk0:(0:Int)≤k:=by omega
   have hk1:(k:Int)<l.length:=by have:=HLL.out;omega
   have hkm:k<maxLen:=by unfold maxLen;omega
   generalize hwa:wr.alloc (.cells #[.string nm,.int .i64 lo,.int .i64 hi] 58)=wa at *;by_cases h1:nn<lo
   ·have HR:=hid (HX5.out (HDN.out (by simp;omega)));go_wp2_with fail
    go_quiet (fail)
    go_wp2;go_ret2;exact jjh.no HR.out (below_drewN hb2 _)
   ·have h1':decide (nn<lo)=false:=decide_eq_false h1;by_cases h2:hi<nn
    ·have HR:=hid (HX5.out (HDN.out (by simp;omega)));go_wp2_with fail
     go_quiet (fail)
     go_wp2;go_ret2;exact jjh.no HR.out (below_drewN hb2 _)
    ·have h2':decide (hi<nn)=false:=decide_eq_false h2;have HIN2:Hid (jdf (b.doms.take (k+1)) (l.take (k+1))=true):=by
      show _=_
      rw [HDM.out.2,HIN.out];simp;omega
     go_wp2_with fail
     go_quiet (fail)
     obtain ⟨w3,hw3⟩:∃ w3,wa.drewN nq=w3:=⟨_,rfl⟩;have q0:w3.cell? ⟨wr.heap.size,0,none⟩=some (.string nm):=by subst hw3;exact q0
     have cia:w3.cell? ⟨bi,oi+k,none⟩=some (.int .i64 nn):=by subst hw3;exact cia
     have hb3:Below w.heap.size w w3:=by subst hw3;exact below_drewN hb2 _
     have HM3:Hid (MapS Tryz.prog 9 w3 w1.heap.size k cc (ansF (domK (b.doms.take k) (l.take k) fun _=>none))):=by subst hw3;exact HMa.out
     have CB3:Hid (Cs w3 w.heap.size [.slice (some ⟨bb,o,none⟩) b.doms.length c,.slice B b.tabs.length d]):=by subst hw3;exact CBa.out.next (below_drewN (Below.refl _ _) _)
     rw [hw3];clear hw3 h1' h2';go_wp2_with fail
     go_still_tail 10,(by kernel_rfl)
     go_wp2_with (at_mapUpdate;refine jgk _ rfl _ _ _ 111 rfl 9 60 Tryz.underlying9 jlj w1.heap.size k cc _ rfl (by exact HM3.out) nm rfl HNM.out hkm (jj8 (nm,true,nn)) rfl ?_;intro w4 hm4 hg4)
     obtain ⟨cc4,hm5⟩:=MapS.ansPut (a:=(nm,true,nn)) hm4;rw [← HDM.out.1] at hm5;have hd3:Below w3.heap.size w3 w3.drew:=(Below.refl _ _).drew;have hb3d:=bx hb3 hd3;exact ⟨⟨k+1,cc4,by omega,by go_num,hm5,HIN2,(CB3.out.next hd3).grown hg4 (by omega),hb3d.grown hg4 hb3d.size (fun _ hj=>by injection hj with hj;omega)⟩,by simp [intOf];omega⟩
  ·have ek:k=b.doms.length:=by omega
   subst ek;rw [List.take_length,List.take_of_length_le (by have:=HLL.out;omega)] at HM HIN;have HR:=hid (HX6.out HIN.out);clear hlt hk HIN HX5 HX6;obtain ⟨ol,ho⟩:=HOK.out.2.2.2.2.2.1;have hnd:=jin HOK.out.2.2.2.1;have hol:ol.length≤4:=by rw [jsj hnd ho];exact ht4
   have HHO:=hid ho;have HND:=hid hnd;have HAK:Hid (askR b l=askK b.tabs ol (domK b.doms l fun _=>none)):=by show _=_;unfold askR;rw [ho];rfl
   clear ho hnd;generalize hK0:domK b.doms l (fun _=>none)=K0 at *;have HBa:=hid (HB.out.onOld hb);have k0:=CB.out.at 0 rfl;have k1:=CB.out.at 1 rfl;have hmlt:=HM.out.lt;go_wp2_with fail
   refine (jod b _ _ HBa.out HS.out HND.out (by omega)).mono ?_;rintro ee w5 ⟨v5,rfl,hn5,hb5⟩;have ho5:=HHO.out;rw [ho5] at hn5 ⊢;simp only [Option.getD_some,Option.isSome_some] at hn5 ⊢;have HN5:=hid hn5;obtain ⟨A5,c5,rfl,hA5,hA5'⟩:=hn5.form;unfold maxLen at hA5';have hb05:=bx hb hb5;have CB5:=hid (CB.out.next hb5);have HM5:=hid (HM.out.below hb5);have hmlt5:=HM5.out.lt;clear hn5 ho5 k0 k1;go_wp2;go_loopw [79] (fun i w6=>∃ k cc:Nat,k≤ol.length∧i = .int .i64 k∧Hid (MapS Tryz.prog 9 w6 w1.heap.size (b.doms.length+k) cc (ansF (askK b.tabs (ol.take k) K0)))∧Hid (w5.grownBy w6 (some w1.heap.size))) (fun i _=>ol.length-(intOf i).toNat)
   case atStart=>exact ⟨0,cc,Nat.zero_le _,rfl,HM5,jbb (Below.refl _ _)⟩
   case round =>
    clear HM CB HBa HM5;rename World=>w6;obtain ⟨k,cc6,hk,rfl,HM6,HG6⟩:=hrel;have hb6:Below w.heap.size w w6:=hb05.grown HG6.out hb05.size (fun _ hj=>by injection hj with hj;omega);have CB6:=hid (CB5.out.grown HG6.out (by omega));by_cases hlt:k<ol.length
    ·have HN6:Sl Enc.str w6 (From wr.heap.size w5) ol (.slice A5 ol.length c5):=HN5.out.keep (fun p hp=>World.cell?_of_block (HG6.out.block _ hp.2 (by intro e;injection e with e;have:=hp.1;omega)));obtain ⟨b5,o5,x,rfl,hS5,hx,cx⟩:=HN6.str_at hlt;clear HN6;have HB6:=hid (HB.out.onOld hb6);have k0:=CB6.out.at 0 rfl;have k1:=CB6.out.at 1 rfl;have HAS:=hid (jz7 (ts:=b.tabs) (s:=x) (ol.take k) K0);rw [← jai hx.out] at HAS;have HST:=hid (jik HS.out x);have HNX:Hid (x.size≤maxLen):=by
      have hm:=(jf8 HND.out HHO.out).mem x;obtain ⟨t,ht,e⟩:=List.mem_map.1 (hm.1 (List.mem_of_getElem? hx.out));subst e;exact je6 (HS.out.2 t ht)
     have HIL:Hid (((jb3 b.tabs x).getD je1).ins.length≤3):=by
      show _≤_
      cases hf:jb3 b.tabs x with
      | none=>simp [je1]
      | some t=>exact (jf4.1 (jbi.1 (jg6 HOK.out.2.2.2.1 (jd8 hf).1)).2.2.2.1).2.1
     go_wp2_with fail
     refine (ji3 b x _ _ HB6.out).mono ?_;rintro ee w7 ⟨vt7,rfl,ht7,hb7⟩;generalize hnt:(jb3 b.tabs x).getD je1=nt at *;clear hnt;have HT7:=hid ht7;obtain ⟨vi,vr,rfl,hi7,hr7⟩:=ht7;obtain ⟨Ai,ci,rfl,-,-⟩:=hi7.form;obtain ⟨Ar,cr,rfl,-,-⟩:=hr7.form;clear hi7 hr7 k0 k1;have hbz:=jaa w7 (.cells #[.string nt.name,.int .i64 nt.pol,.bool nt.comp,.slice Ai nt.ins.length ci,.slice Ar nt.rules.length cr] 56);have CN:=hid (Cs.new w7 [.string nt.name,.int .i64 nt.pol,.bool nt.comp,.slice Ai nt.ins.length ci,.slice Ar nt.rules.length cr] 56);change Hid (Cs (w7.alloc (.cells #[.string nt.name,.int .i64 nt.pol,.bool nt.comp,.slice Ai nt.ins.length ci,.slice Ar nt.rules.length cr] 56)) _ _) at CN;have HT8:=hid (HT7.out.onOld hbz);have hb78:=bx hb7 hbz;have HM8:=hid (HM6.out.below hb78);have q0:=CN.out.at 0 rfl;have q1:=CN.out.at 1 rfl;have q2:=CN.out.at 2 rfl;have q3:=CN.out.at 3 rfl;have q4:=CN.out.at 4 rfl;generalize hw8:w7.alloc (.cells #[.string nt.name,.int .i64 nt.pol,.bool nt.comp,.slice Ai nt.ins.length ci,.slice Ar nt.rules.length cr] 56)=w8 at *;have hkm:b.doms.length+k<maxLen:=by unfold maxLen;omega
     go_wp2_with fail
     clear hw8;refine (yc7 _ nt _ _ w1.heap.size _ _ HM8.out HT8.out HST.out HIL.out).mono ?_;rintro ee w9 ⟨rfl,hb9⟩;have HM9:=hid (HM8.out.below hb9);have hb69:=bx hb78 hb9;clear q0 q1 q2 q3 q4;generalize hAN:jgl (askK b.tabs (ol.take k) K0) nt=AN at *;go_wp2_with (at_mapUpdate;refine jgk _ rfl _ _ _ 111 rfl 9 60 Tryz.underlying9 jlj w1.heap.size (b.doms.length+k) cc6 _ rfl HM9.out x rfl HNX.out hkm (jj8 AN) rfl ?_;intro wt hmt hgt)
     obtain ⟨cct,hmt'⟩:=MapS.ansPut (a:=AN) hmt;rw [← HAS.out] at hmt';exact ⟨⟨k+1,cct,by omega,by go_num,hmt',World.grownBy.trans' (World.grownBy.trans' HG6.out (jbb hb69)) hgt⟩,by simp [intOf];omega⟩
    ·have ek:k=ol.length:=by omega
     subst ek;rw [List.take_length,← HAK.out] at HM6;clear hlt hk;generalize hKK:askR b l=KK at *;have k1:=CB6.out.at 1 rfl;have HR2:Hid (R=(b.tabs.map (fun t=>(KK t.name).getD jjg),0)):=by show _=_;rw [HR.out,← hKK];rfl
     go_wp2;go_loopw [18,98] (fun u i wr=>∃ k:Nat,k≤b.tabs.length∧i = .int .i64 k∧Hid (OwnG Enc.ans wr w6.heap.size w6.heap.size 60 u ((b.tabs.take k).map (fun t=>(KK t.name).getD jjg)))∧Below w6.heap.size w6 wr) (fun _ i _=>b.tabs.length-(intOf i).toNat)
     case atStart=>exact ⟨0,Nat.zero_le _,rfl,OwnG.nil,Below.refl _ _⟩
     case round =>
      clear k1;rename World=>wt;obtain ⟨k,hk,rfl,HO,hbl⟩:=hrel;have hbt:=bx hb6 hbl;by_cases hlt:k<b.tabs.length
      ·obtain ⟨bb,o,nm,pol,comp,ins,rules,vi,vr,rfl,hSb,hx,c1,c2,c3,c4,c5',hi,hr⟩:=(HTS.out.onOld hbt).tab_at hlt;obtain ⟨Ai,ci,rfl,-,-⟩:=hi.form;obtain ⟨Ar,cr,rfl,-,-⟩:=hr.form;clear hi hr;have hbz:=jaa wt (.cells #[.string nm,.int .i64 pol,.bool comp,.slice Ai ins.length ci,.slice Ar rules.length cr] 56);have CN:=hid (Cs.new wt [.string nm,.int .i64 pol,.bool comp,.slice Ai ins.length ci,.slice Ar rules.length cr] 56);change Hid (Cs (wt.alloc (.cells #[.string nm,.int .i64 pol,.bool comp,.slice Ai ins.length ci,.slice Ar rules.length cr] 56)) _ _) at CN;have hblz:=bx hbl hbz;have HOz:=hid (HO.out.next hbz);have hlk:=ynr (HM6.out.below hblz) nm (je6 (HS.out.2 _ (List.mem_of_getElem? hx.out)));obtain ⟨⟨an,af,am⟩,hq⟩:∃ q:AnsD,q=(KK nm).getD jjg:=⟨_,rfl⟩;rw [← hq,show jj8 (an,af,am) = .agg #[.string an,.bool af,.int .i64 am] from rfl] at hlk;have HQ:=hid hq;clear hq;have q0:=CN.out.at 0 rfl;generalize hwa:wt.alloc (.cells #[.string nm,.int .i64 pol,.bool comp,.slice Ai ins.length ci,.slice Ar rules.length cr] 56)=wa at *;have hbb:=jaa wa (.cells #[.string an,.bool af,.int .i64 am] 60);have HOb:=hid (HOz.out.next hbb);have hblb:=bx hblz hbb;have hszb:=hblb.size;have hlen:((b.tabs.take k).map (fun t=>(KK t.name).getD jjg)).length≤4:=by rw [List.length_map,List.length_take];omega
       have HY:Hid (Enc.ans.rd (wa.alloc (.cells #[.string an,.bool af,.int .i64 am] 60)) (Off w6.heap.size (wa.alloc (.cells #[.string an,.bool af,.int .i64 am] 60)) u18) (an,af,am) [.string an,.bool af,.int .i64 am]):=Enc.ans_rd.2 rfl;have HTK:Hid ((b.tabs.take (k+1)).map (fun t=>(KK t.name).getD jjg)=(b.tabs.take k).map (fun t=>(KK t.name).getD jjg) ++ [(an,af,am)]):=by
        show _=_
        rw [jai hx.out,List.map_append];simp only [List.map_cons,List.map_nil];rw [HQ.out]
       go_wp2_with (at_builtin;refine jaf (E:=Enc.ans) _ rfl _ _ 28 rfl w6.heap.size w6.heap.size 60 32 (.agg #[.string ⟨#[]⟩,.bool false,.int .i64 0]) jz6 ye1 rfl (by decide) _ _ rfl HOb.out ⟨wa.heap.size,0,none⟩ (an,af,am) [.string an,.bool af,.int .i64 am] rfl HY.out (yai _ _ _ _ _) (by omega) (by unfold maxLen;omega) hszb ?_;intro v' wz hown' hgrowz hmvz)
       refine ⟨⟨k+1,by omega,by go_num,?_,hblb.grown hgrowz hszb (fun _ hr=>(HOb.out.lt _ hr).1)⟩,by simp [intOf];omega⟩
       show OwnG _ _ _ _ _ _ _
       rw [HTK.out];exact hown'
      ·have e:b.tabs.take k=b.tabs:=List.take_of_length_le (by omega);rw [e] at HO;go_wp2;go_ret2;rw [HR2.out];exact ⟨_,rfl,(HO.out.sl (Nat.le_refl _)).more (fun k hk=>⟨Nat.le_trans hb6.size hk.1,hk.2⟩),hbt⟩
end Go.Proofs.YthmlndmlnlfhnaaGreatDoor
