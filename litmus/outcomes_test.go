package litmus_test

import (
	"math/rand"
	"slices"
	"testing"

	"quadrille/api"
	"quadrille/events"
	"quadrille/litmus"
	"quadrille/model"
)

// holdOutcomes holds what a test's allowed executions leave, the whole list.
func holdOutcomes(t *testing.T, text string, want ...api.Outcome) {
	t.Helper()
	got, err := litmus.Outcomes(parsed(t, text))
	if err != api.OK || !slices.EqualFunc(got, want, sameOutcome) {
		t.Errorf("%q: Outcomes is %v, %v, want %v", text, got, err, want)
	}
}

// pairs are outcomes of two threads by their r1, those two by two; the variables are the same in all.
func pairs(vars [4]uint32, first ...uint32) (l []api.Outcome) {
	for two := range slices.Chunk(first, 2) {
		l = append(l, leaves(vars, [4]uint32{two[0]}, [4]uint32{two[1]}))
	}
	return l
}

// TestP9_3Examples has the chapter's.
func TestP9_3Examples(t *testing.T) {
	ones := [4]uint32{1, 1, 0, 0}
	holdOutcomes(t, "hart\nx = 1\nr1 = y\nhart\ny = 1\nr1 = x\n", pairs(ones, 0, 0, 0, 1, 1, 0, 1, 1)...)
	holdOutcomes(t, "hart\nx = 1\nfence rw rw\nr1 = y\nhart\ny = 1\nfence rw rw\nr1 = x\n", pairs(ones, 0, 1, 1, 0, 1, 1)...)
	holdOutcomes(t, "hart\nr1 = x\ny = 1\nhart\nr1 = y\nx = 1\n", pairs(ones, 0, 0, 0, 1, 1, 0, 1, 1)...)
	holdOutcomes(t, "hart\nr1 = x\nif r1\ny = 1\nhart\nr1 = y\nif r1\nx = 1\n", pairs(ones, 0, 0, 0, 1, 1, 0)...)
	holdOutcomes(t, "hart\nr1 = x\ny = r1\nhart\nr1 = y\nx = r1\n", pairs([4]uint32{}, 0, 0)...)
}

// TestP9_3Rows has what steps keep in order, and what they don't.
func TestP9_3Rows(t *testing.T) {
	ones := [4]uint32{1, 1, 0, 0}
	all, but00, but11 := pairs(ones, 0, 0, 0, 1, 1, 0, 1, 1), pairs(ones, 0, 1, 1, 0, 1, 1), pairs(ones, 0, 0, 0, 1, 1, 0)
	for _, r := range []struct {
		text string
		want []api.Outcome
	}{
		// both store, then load
		{"hart\nx = 1\nfence rw rw\nr1 = y\nhart\ny = 1\nr1 = x\n", all},
		{"hart\nx = 1\nfence w r\nr1 = y\nhart\ny = 1\nfence w r\nr1 = x\n", but00},
		{"hart\nx = 1\nfence w w\nr1 = y\nhart\ny = 1\nfence w r\nr1 = x\n", all},
		{"hart\nx = 1\nfence r r\nr1 = y\nhart\ny = 1\nfence w r\nr1 = x\n", all},
		{"hart\nx = 1\nfence r w\nr1 = y\nhart\ny = 1\nfence w r\nr1 = x\n", all},
		{"hart\nx = 1\nfence rw r\nr1 = y\nhart\ny = 1\nfence w rw\nr1 = x\n", but00},
		{"hart\nfence rw rw\nx = 1\nr1 = y\nfence rw rw\nhart\ny = 1\nfence rw rw\nr1 = x\n", all},
		{"hart\nx = 1 aq\nr1 = y\nhart\ny = 1\nfence rw rw\nr1 = x\n", but00},
		{"hart\nx = 1\nr1 = y rl\nhart\ny = 1\nfence rw rw\nr1 = x\n", but00},
		{"hart\nx = 1 rl\nr1 = y aq\nhart\ny = 1\nfence rw rw\nr1 = x\n", all},
		{"hart\nr2 = swap x 1\nr1 = y\nhart\nr2 = swap y 1\nr1 = x\n", all},
		{"hart\nr2 = swap x 1 aq rl\nr1 = y\nhart\nr2 = add y 1 aq rl\nr1 = x\n", but00},
		// both load, then store
		{"hart\nr1 = x\nfence r w\ny = 1\nhart\nr1 = y\nfence r w\nx = 1\n", but11},
		{"hart\nr1 = x\nif r1\ny = 1\nhart\nr1 = y\nx = 1\n", all},
		{"hart\nr1 = x\nif r2\ny = 1\nhart\nr1 = y\nif r1\nx = 1\n", all},
		{"hart\nr1 = x\ny = 1\nif r1\nhart\nr1 = y\nif r1\nx = 1\n", all},
		{"hart\nr1 = x\ny = 1 by r1\nhart\nr1 = y\nx = 1 by r1\n", but11},
		{"hart\nr1 = x\ny = 1 by r2\nhart\nr1 = y\nx = 1 by r1\n", all},
		{"hart\nr1 = x aq\ny = 1\nhart\nr1 = y\nx = 1 rl\n", but11},
		{"hart\nr1 = x rl\ny = 1\nhart\nr1 = y\nx = 1 rl\n", all},
	} {
		holdOutcomes(t, r.text, r.want...)
	}
	zero, one := [4]uint32{}, [4]uint32{1, 1, 0, 0}
	// x, then y; y, then x: the new y and the old x
	passed := []api.Outcome{leaves(ones, zero, zero), leaves(ones, zero, [4]uint32{0, 1}), leaves(ones, zero, [4]uint32{1, 0}), leaves(ones, zero, one)}
	kept := slices.Delete(slices.Clone(passed), 2, 3)
	for _, r := range []struct {
		text string
		want []api.Outcome
	}{
		{"hart\nx = 1\ny = 1\nhart\nr1 = y\nr2 = x\n", passed},
		{"hart\nx = 1\nfence w w\ny = 1\nhart\nr1 = y\nr2 = x\n", passed},
		{"hart\nx = 1\ny = 1\nhart\nr1 = y\nfence r r\nr2 = x\n", passed},
		{"hart\nx = 1\nfence w w\ny = 1\nhart\nr1 = y\nfence r r\nr2 = x\n", kept},
		{"hart\nx = 1\ny = 1 rl\nhart\nr1 = y aq\nr2 = x\n", kept},
		{"hart\nx = 1\nfence w w\ny = 1\nhart\nr1 = y\nr2 = x by r1\n", kept},
		{"hart\nx = 1\nfence w w\ny = 1\nhart\nr1 = y\nif r1\nr2 = x\n", passed},
		{"hart\nx = 1\nfence w w\ny = 1\nhart\nr1 = y\nif r1\nfence rw rw\nr2 = x\n", kept},
	} {
		holdOutcomes(t, r.text, r.want...)
	}
}

// TestP9_3Lists has lists whose order asks for each part, and what leaves the same.
func TestP9_3Lists(t *testing.T) {
	type four = [4]uint32
	holdOutcomes(t, "hart\n", leaves(four{}, four{}))
	holdOutcomes(t, "hart\nhart\nif r1\n", leaves(four{}, four{}, four{}))
	holdOutcomes(t, "hart\nx = 5\nx = 5\nhart\nx = 5\n", leaves(four{5}, four{}, four{})) // many executions, one outcome
	holdOutcomes(t, "hart\nw = 2\nhart\nw = 10\n", leaves(four{0, 0, 0, 2}, four{}, four{}), leaves(four{0, 0, 0, 10}, four{}, four{}))
	holdOutcomes(t, "hart\nx = 4294967295\nhart\nx = 1\n", leaves(four{1}, four{}, four{}), leaves(four{1<<32 - 1}, four{}, four{}))
	holdOutcomes(t, "hart\nx = 1\nx = 2\n", leaves(four{2}, four{}))                                                                  // not coherent: 1
	holdOutcomes(t, "hart\nr1 = add x 1\nhart\nr1 = add x 1\n", leaves(four{2}, four{0}, four{1}), leaves(four{2}, four{1}, four{0})) // atomic
	holdOutcomes(t, "hart\nr1 = swap x 1\nhart\nr1 = swap x 2\n", leaves(four{2}, four{0}, four{1}), leaves(four{1}, four{2}, four{0}))
	holdOutcomes(t, "hart\nr1 = x\nhart\nx = 3\n", leaves(four{3}, four{0}, four{}), leaves(four{3}, four{3}, four{}))
	// Regs go ahead of Vars, the first thread ahead of the second one, r1 ahead of r2, x ahead of y.
	holdOutcomes(t, "hart\nr4 = x\nhart\nr1 = x\nhart\nx = 1\n",
		leaves(four{1}, four{}, four{}, four{}), leaves(four{1}, four{}, four{1}, four{}), leaves(four{1}, four{0, 0, 0, 1}, four{}, four{}), leaves(four{1}, four{0, 0, 0, 1}, four{1}, four{}))
	holdOutcomes(t, "hart\nr2 = x\nhart\nx = 2\nhart\nx = 1\n",
		leaves(four{1}, four{}, four{}, four{}), leaves(four{2}, four{}, four{}, four{}),
		leaves(four{1}, four{0, 1}, four{}, four{}), leaves(four{2}, four{0, 1}, four{}, four{}),
		leaves(four{1}, four{0, 2}, four{}, four{}), leaves(four{2}, four{0, 2}, four{}, four{}))
	holdOutcomes(t, "hart\ny = 1\nhart\ny = 2\nhart\nx = 1\nhart\nx = 2\n",
		leaves(four{1, 1}, four{}, four{}, four{}, four{}), leaves(four{1, 2}, four{}, four{}, four{}, four{}),
		leaves(four{2, 1}, four{}, four{}, four{}, four{}), leaves(four{2, 2}, four{}, four{}, four{}, four{}))
	holdOutcomes(t, "hart\nr1 = y\nr2 = x\nhart\nx = 1\nhart\ny = 1\n",
		leaves(four{1, 1}, four{0, 0}, four{}, four{}), leaves(four{1, 1}, four{0, 1}, four{}, four{}),
		leaves(four{1, 1}, four{1, 0}, four{}, four{}), leaves(four{1, 1}, four{1, 1}, four{}, four{}))
	// 256 and 1: as numbers, not as bytes
	holdOutcomes(t, "hart\nr1 = x\nhart\nx = 256\nhart\nx = 1\n",
		leaves(four{1}, four{0}, four{}, four{}), leaves(four{256}, four{0}, four{}, four{}),
		leaves(four{1}, four{1}, four{}, four{}), leaves(four{256}, four{1}, four{}, four{}),
		leaves(four{1}, four{256}, four{}, four{}), leaves(four{256}, four{256}, four{}, four{}))
}

// TestP9_3MayNotBe has tests that may not be.
func TestP9_3MayNotBe(t *testing.T) {
	for name, v := range refused() {
		if l, err := litmus.Outcomes(v); err != api.ErrArg || len(l) != 0 {
			t.Errorf("%s: Outcomes is %v, %v", name, l, err)
		}
	}
}

// allowed tells whether layer 8 allows an execution.
func allowed(t *testing.T, e api.Execution) bool {
	t.Helper()
	is, err := model.Allowed(e)
	if err != api.OK {
		t.Fatalf("%v may not be: %v", e, err)
	}
	return is
}

// TestP9_3Any holds what any tests leave against the chapter told again.
func TestP9_3Any(t *testing.T) {
	source := rand.New(rand.NewSource(94))
	less, folded := 0, 0
	for n := range 1200 {
		v := anyTest(source, 4+n%3)
		r := retell(v)
		l, none := r.executions()
		if len(l)+none > 1000 {
			continue
		}
		var want []api.Outcome
		for _, e := range l {
			if allowed(t, e) {
				want = append(want, r.outcome(e))
			}
		}
		if len(want) < len(l) {
			less++
		}
		had := len(want)
		want = rising(want)
		if len(want) < had {
			folded++
		}
		before := copied(v)
		got, err := litmus.Outcomes(v)
		if err != api.OK || !slices.EqualFunc(got, want, sameOutcome) {
			t.Fatalf("%v: Outcomes is %v, %v, want %v", v, got, err, want)
		}
		if !litmus.Same(v, before) {
			t.Fatal("what was handed in is changed")
		}
	}
	if less < 300 || folded < 200 {
		t.Errorf("met only %d where some are not allowed, %d of which some leave the same", less, folded)
	}
}

// TestP9_3Own writes over what was told: nothing else changes.
func TestP9_3Own(t *testing.T) {
	v := parsed(t, "hart\nx = 1\nr1 = y\nhart\ny = 1\nr1 = x\n")
	want, _ := litmus.Outcomes(v)
	got, _ := litmus.Outcomes(v)
	for i := range got {
		regs := got[i].Regs[:cap(got[i].Regs)]
		for j := range regs {
			regs[j] = [4]uint32{7, 7, 7, 7}
		}
		for j := i + 1; j < len(got); j++ {
			if !sameOutcome(got[j], want[j]) {
				t.Errorf("%d shares with %d", j, i)
			}
		}
	}
	if again, _ := litmus.Outcomes(v); !slices.EqualFunc(again, want, sameOutcome) {
		t.Errorf("asked again: %v, want %v", again, want)
	}
	e := all(v)[0]
	o, _ := litmus.Outcome(v, e)
	o.Regs[0][0] = 7
	if again, _ := litmus.Outcome(v, e); again.Regs[0][0] == 7 || !events.Same(e, all(v)[0]) {
		t.Error("what was told is kept")
	}
}
