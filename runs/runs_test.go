package runs_test

import (
	"math/rand/v2"
	"testing"

	"cistern/runs"
)

// check holds runs against a map of places. The places are 0 to 29.
func check(t *testing.T, r *runs.Runs[byte], want map[int]byte) {
	t.Helper()
	if r.Size() != len(want) {
		t.Fatalf("Size() = %d, want %d", r.Size(), len(want))
	}
	count := 0
	for place, b := range want {
		if _, ahead := want[place-1]; !ahead {
			count++
		}
		if !r.Agrees(place, []byte{b}) || r.Agrees(place, []byte{b + 1}) {
			t.Fatalf("at %d there is not %d", place, b)
		}
	}
	if r.Count() != count {
		t.Fatalf("Count() = %d, want %d", r.Count(), count)
	}
	for first := range 30 {
		covered := true
		for behind := first; behind < 32; behind++ {
			if r.Covers(first, behind) != covered {
				t.Fatalf("Covers(%d, %d) = %t", first, behind, !covered)
			}
			_, filled := want[behind]
			covered = covered && filled
		}
	}
}

func TestFillAgainstAMap(t *testing.T) {
	random := rand.New(rand.NewPCG(3, 4))
	for range 300 {
		var r runs.Runs[byte]
		want := map[int]byte{}
		check(t, &r, want)
		for range 12 {
			first := random.IntN(26)
			items := make([]byte, random.IntN(5))
			for i := range items {
				items[i] = byte(5 * (first + i))
				want[first+i] = items[i]
			}
			if !r.Agrees(first, items) {
				t.Fatalf("%v does not agree at %d", items, first)
			}
			r.Fill(first, items)
			clear(items) // lent, not kept
			check(t, &r, want)
		}
		for r.Count() > 0 {
			behind := r.DropLowest()
			for place := range behind {
				delete(want, place)
			}
			if _, filled := want[behind]; filled {
				t.Fatalf("DropLowest() = %d, but the run goes on", behind)
			}
			check(t, &r, want)
		}
	}
}

// Items are taken from a front that goes on; what is filled behind it is never below it.
func TestTakeAgainstAMap(t *testing.T) {
	random := rand.New(rand.NewPCG(5, 6))
	for range 300 {
		var r runs.Runs[byte]
		want := map[int]byte{}
		front := 0
		for range 40 {
			first := front + random.IntN(5)
			items := make([]byte, min(random.IntN(4), max(0, 26-first)))
			for i := range items {
				items[i] = byte(5 * (first + i))
				want[first+i] = items[i]
			}
			r.Fill(first, items)
			most := random.IntN(6)
			taken := r.Take(front, most)
			for i, b := range taken {
				if left, filled := want[front+i]; !filled || left != b {
					t.Fatalf("Take(%d, %d) = %v", front, most, taken)
				}
				delete(want, front+i)
			}
			front += len(taken)
			if _, filled := want[front]; len(taken) > most || filled && len(taken) < most {
				t.Fatalf("Take(%d, %d) = %v, and there is more: %t", front-len(taken), most, taken, filled)
			}
			for i := range taken[:cap(taken)] {
				taken[:cap(taken)][i] = 255 // it is the caller's, with its spare room
			}
			check(t, &r, want)
		}
	}
}

func TestAgreesAtEachPlace(t *testing.T) {
	var r runs.Runs[byte]
	r.Fill(3, []byte("abc"))
	r.Fill(8, []byte("fg"))
	whole := "??\x00abc\x00\x00fg\x00?"
	for i := range whole {
		b := []byte(whole)
		b[i] ^= 1
		filled := i >= 3 && i <= 5 || i >= 8 && i <= 9
		if r.Agrees(0, b) == filled {
			t.Errorf("Agrees, with another item at %d: %t", i, !filled)
		}
	}
	if !r.Agrees(0, []byte(whole)) || !r.Agrees(4, nil) || !r.Agrees(6, []byte("xy")) || !r.Agrees(10, []byte("x")) {
		t.Errorf("items that lie nowhere else do not agree")
	}
}

// Where the place alone counts, a run costs nothing, however long it is.
func TestRunsThatCarryNothing(t *testing.T) {
	var r runs.Runs[struct{}]
	r.Fill(1<<29, make([]struct{}, 1<<29))
	r.Fill(0, make([]struct{}, 1<<29-1))
	if r.Count() != 2 || r.Size() != 1<<30-1 || r.Covers(1<<29-1, 1<<29) {
		t.Errorf("%d runs of %d places", r.Count(), r.Size())
	}
	r.Fill(1<<29-1, make([]struct{}, 1))
	if r.Count() != 1 || r.Size() != 1<<30 || !r.Covers(0, 1<<30) {
		t.Errorf("%d runs of %d places", r.Count(), r.Size())
	}
	if behind := r.DropLowest(); behind != 1<<30 || r.Count() != 0 {
		t.Errorf("DropLowest() = %d", behind)
	}
}
