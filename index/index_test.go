package index_test

import (
	"math"
	"math/rand"
	"strconv"
	"strings"
	"testing"

	"weighbridge/api"
	"weighbridge/hash"
	"weighbridge/index"
	"weighbridge/keys"
)

// functions: one of draws, one that has keys of one length side by side, ones by which all keys collide.
func functions() []hash.Row {
	return []hash.Row{
		hash.Rows([]uint64{0x9E3779B97F4A7C15, 0xD1B54A32D192ED03, 0x8CB92BA72F3D8DD7}, 1)[0],
		hash.Rows(nil, 1)[0],
		{X: 1, A: 0, B: 0},
		{X: 1, A: 0, B: api.Prime - 1},
		{},
	}
}

// P5.1 of Size, Bytes.
func TestSizeBytes(t *testing.T) {
	for n, want := range map[int]int{0: 1, 1: 3, 64: 129, 1024: 2049, 1 << 16: 131073} {
		if index.Size(n) != want || index.Bytes(n) != 4*int64(want) {
			t.Error(n, index.Size(n), index.Bytes(n))
		}
	}
}

// P5.1: the example.
func TestFindBehindRemoved(t *testing.T) {
	for _, r := range functions() {
		x := index.New(keys.New(2), r)
		if a, b := x.Put("a"), x.Put("b"); a != 0 || b != 1 {
			t.Fatal(a, b)
		}
		if got := x.Remove("a"); got != 0 {
			t.Fatal(got)
		}
		if x.Find("b") != 1 || x.Find("a") != -1 {
			t.Fatal(r, x.Find("b"), x.Find("a"))
		}
	}
}

// P5.1: without a store, of a nil Index, of a store without places.
func TestNothing(t *testing.T) {
	if index.New(nil, hash.Row{}) != nil {
		t.Fatal("an index of no store")
	}
	var none *index.Index
	for _, x := range []*index.Index{none, index.New(keys.New(0), functions()[0])} {
		if x.Find("") != -1 || x.Put("") != -1 || x.Put("a") != -1 || x.Remove("a") != -1 {
			t.Fatal("a place of nothing")
		}
	}
}

// P5.1 of Put, Find, Remove: -1 of a key that is in it, or isn't, or is too long, or has no room; the store has just what is in the index.
func TestWrongKeys(t *testing.T) {
	long := strings.Repeat("l", api.MaxKey)
	for _, r := range functions() {
		s := keys.New(3)
		x := index.New(s, r)
		if x.Put(long+"l") != -1 || x.Find(long+"l") != -1 || x.Remove(long+"l") != -1 || s.Used() != 0 {
			t.Fatal("too long")
		}
		if x.Put("") != 0 || x.Put("") != -1 || x.Put(long) != 1 || x.Put(long) != -1 || s.Used() != 2 {
			t.Fatal("twice")
		}
		if x.Put("c") != 2 || x.Put("d") != -1 || x.Find("d") != -1 || x.Remove("d") != -1 || s.Used() != 3 {
			t.Fatal("no room")
		}
		if x.Find("") != 0 || x.Find(long) != 1 || x.Find("c") != 2 {
			t.Fatal("lost")
		}
		if x.Remove("") != 0 || x.Remove("") != -1 || x.Remove("c") != 2 || s.Used() != 1 {
			t.Fatal("removed")
		}
		// The place that was freed last is taken first.
		if x.Put("e") != 2 || x.Put("f") != 0 || x.Find("e") != 2 || x.Find("f") != 0 || !s.Is(2, "e") || !s.Is(0, "f") {
			t.Fatal("freed last")
		}
	}
}

// P5.1: any calls, whatever the function is, against a map.
func TestAgainstMap(t *testing.T) {
	const n = 12
	for seed, r := range functions() {
		draws := rand.New(rand.NewSource(int64(seed)))
		s, plain, has := keys.New(n), keys.New(n), map[string]int{}
		x := index.New(s, r)
		for range 4000 {
			key := "key" + strconv.Itoa(draws.Intn(2*n))
			at, in := has[key]
			if !in {
				at = -1
			}
			if draws.Intn(2) == 0 {
				if got := x.Remove(key); got != at {
					t.Fatalf("Remove(%q): %d, not %d", key, got, at)
				}
				plain.Free(at)
				delete(has, key)
			} else {
				want := -1
				if !in {
					want = plain.Put(key)
				}
				if got := x.Put(key); got != want {
					t.Fatalf("Put(%q): %d, not %d", key, got, want)
				}
				if want >= 0 {
					has[key] = want
				}
			}
			wantAll(t, x, has, 2*n)
			if s.Used() != len(has) {
				t.Fatal(s.Used(), len(has))
			}
		}
	}
}

func wantAll(t *testing.T, x *index.Index, has map[string]int, n int) {
	t.Helper()
	for i := range n {
		key := "key" + strconv.Itoa(i)
		want, in := has[key]
		if !in {
			want = -1
		}
		if got := x.Find(key); got != want {
			t.Fatalf("Find(%q): %d, not %d", key, got, want)
		}
	}
}

// P5.1: the largest store there is.
func TestLargest(t *testing.T) {
	const n = 1 << 16
	x := index.New(keys.New(n), functions()[0])
	for i := range n {
		if got := x.Put(strconv.Itoa(i)); got != i {
			t.Fatal(i, got)
		}
	}
	for i := 0; i < n; i += 2 {
		if got := x.Remove(strconv.Itoa(i)); got != i {
			t.Fatal(i, got)
		}
	}
	for i := range n {
		want := i
		if i%2 == 0 {
			want = -1
		}
		if got := x.Find(strconv.Itoa(i)); got != want {
			t.Fatal(i, got)
		}
	}
}

// P0: of a store that others change nothing is said but that each call ends.
func TestChangedByOthersEnds(t *testing.T) {
	for _, r := range append(functions(), hash.Row{X: math.MaxUint64, A: math.MaxUint64, B: math.MaxUint64}) {
		s := keys.New(2)
		s.Put("there")
		x := index.New(s, r)
		for i := range 20 {
			x.Put("k" + strconv.Itoa(i))
			s.Free(i % 3)
			x.Find("k0")
			if i%5 == 4 {
				x.Remove("k" + strconv.Itoa(i-1))
			}
		}
		for i := range 20 {
			x.Remove("k" + strconv.Itoa(i))
		}
	}
}
