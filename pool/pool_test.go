package pool_test

import (
	"math"
	"math/rand"
	"slices"
	"strconv"
	"strings"
	"testing"

	"weighbridge/api"
	"weighbridge/cell"
	"weighbridge/hash"
	"weighbridge/index"
	"weighbridge/keys"
	"weighbridge/pool"
)

// functions: one of draws, and one by which all keys collide.
func functions() []hash.Row {
	return []hash.Row{hash.Rows([]uint64{0x9E3779B97F4A7C15, 0xD1B54A32D192ED03, 5}, 1)[0], {X: 1, A: 0, B: 3}}
}

// told: the keys in order, with what their cells have used.
func told(p *pool.Pool) string {
	var l []string
	for key, c := range p.All {
		l = append(l, key+":"+strconv.Itoa(int(c.Used)))
	}
	return strings.Join(l, " ")
}

func used(n int64) cell.Cell { return cell.Cell{Used: n} }

// P10.1: the example.
func TestOneCell(t *testing.T) {
	p := pool.New(1, functions()[0])
	if p.Full() || p.Put("a", used(1)) == nil || !p.Full() || p.Put("b", used(2)) != nil {
		t.Fatal(told(p))
	}
	if told(p) != "a:1" || p.Len() != 1 || p.Find("b") != nil {
		t.Fatal(told(p))
	}
}

// P10.1 of New, and of a nil Pool: it is full, and has nothing.
func TestNil(t *testing.T) {
	for _, n := range []int{math.MinInt, -1, 0, api.MaxCells + 1, math.MaxInt} {
		p := pool.New(n, hash.Row{})
		if p != nil {
			t.Fatal(n)
		}
		if p.Len() != 0 || !p.Full() || p.Find("a") != nil || p.Put("a", used(1)) != nil || told(p) != "" {
			t.Fatal("a nil pool has cells")
		}
		if c, ok := p.Remove("a"); ok || c != (cell.Cell{}) {
			t.Fatal(c, ok)
		}
		if key, ok := p.Idle(cell.Pace{}, 0); ok || key != "" {
			t.Fatal(key, ok)
		}
	}
	for _, n := range []int{1, api.MaxCells} {
		if p := pool.New(n, hash.Row{}); p == nil || p.Full() || p.Len() != 0 {
			t.Fatal(n)
		}
	}
}

// P10.1 of Bytes.
func TestBytes(t *testing.T) {
	for n, want := range map[int]int64{1: 69 + 12 + 32, 1024: 1024*69 + 2049*4 + 1024*32} {
		if got := pool.Bytes(n); got != want || got != keys.Bytes(n)+index.Bytes(n)+32*int64(n) {
			t.Error(n, got)
		}
	}
}

// P10.1: the cell that was freed last is the next one; a key with a cell, or a too long one, gets none.
func TestPutRemove(t *testing.T) {
	for _, r := range functions() {
		p := pool.New(3, r)
		long := strings.Repeat("l", api.MaxKey)
		if p.Put(long+"l", used(9)) != nil || p.Len() != 0 {
			t.Fatal("too long")
		}
		for i, key := range []string{"", long, "c"} {
			if c := p.Put(key, used(int64(i))); c == nil || *c != used(int64(i)) {
				t.Fatal(key)
			}
			if p.Put(key, used(7)) != nil {
				t.Fatal("twice", key)
			}
		}
		if p.Put("d", used(3)) != nil || told(p) != ":0 "+long+":1 c:2" || !p.Full() {
			t.Fatal(told(p))
		}
		if c, ok := p.Remove("d"); ok || c != (cell.Cell{}) {
			t.Fatal(c, ok)
		}
		if c, ok := p.Remove("c"); !ok || c != used(2) {
			t.Fatal(c, ok)
		}
		if c, ok := p.Remove(""); !ok || c != used(0) || p.Len() != 1 || p.Full() {
			t.Fatal(c, ok)
		}
		if c, ok := p.Remove(""); ok || c != (cell.Cell{}) {
			t.Fatal(c, ok)
		}
		p.Put("e", used(5))
		p.Put("f", used(6))
		if told(p) != "e:5 "+long+":1 f:6" {
			t.Fatal(told(p))
		}
	}
}

// P10.1 of Find: a cell may be changed through it; All's may not.
func TestFindChanges(t *testing.T) {
	p := pool.New(2, functions()[0])
	put := p.Put("a", used(1))
	put.Used = 5
	p.Find("a").Carry = 3
	if c := p.Find("a"); *c != (cell.Cell{Used: 5, Carry: 3}) {
		t.Fatal(*c)
	}
	if p.Find("b") != nil {
		t.Fatal("found")
	}
	for _, c := range p.All {
		c.Used = 99
	}
	if told(p) != "a:5" {
		t.Fatal(told(p))
	}
}

// P10.1 of All: it ends where yield says false; without a yield there is nothing.
func TestAllEnds(t *testing.T) {
	p := pool.New(4, functions()[0])
	for i := range 4 {
		p.Put(strconv.Itoa(i), used(int64(i)))
	}
	p.Remove("1")
	for stop := 1; stop <= 3; stop++ {
		var l []string
		p.All(func(key string, c cell.Cell) bool {
			l = append(l, key)
			return len(l) < stop
		})
		if !slices.Equal(l, []string{"0", "2", "3"}[:stop]) {
			t.Fatal(stop, l)
		}
	}
	p.All(nil)
}

// P10.1 of Idle: the first one by its place.
func TestIdle(t *testing.T) {
	pace := cell.Of(api.Rule{Limit: 10, Window: 10, Burst: 1})
	p := pool.New(3, functions()[0])
	if key, ok := p.Idle(pace, 100); ok || key != "" {
		t.Fatal(key, ok)
	}
	p.Put("a", cell.New(30, 0))
	p.Put("b", cell.New(20, 0))
	p.Put("c", cell.New(10, 0))
	for now, want := range map[int64]string{19: "", 20: "c", 29: "c", 30: "b", 39: "b", 40: "a", 1 << 62: "a"} {
		if key, ok := p.Idle(pace, now); key != want || ok != (want != "") {
			t.Errorf("at %d: %q, %t", now, key, ok)
		}
	}
	p.Remove("a")
	p.Put("d", cell.New(0, 0))
	if key, ok := p.Idle(pace, 40); key != "d" || !ok {
		t.Fatal(key, ok)
	}
}

// P10.1: any calls, against places that are written plainly.
func TestAgainstPlainPool(t *testing.T) {
	const n = 6
	for seed, r := range functions() {
		draws := rand.New(rand.NewSource(int64(seed)))
		p, free := pool.New(n, r), []int{5, 4, 3, 2, 1, 0}
		var places [n]string // "" is free
		var cells [n]cell.Cell
		for i := range 4000 {
			key := "k" + strconv.Itoa(draws.Intn(2*n))
			at := slices.Index(places[:], key)
			if draws.Intn(2) == 0 {
				c, ok := p.Remove(key)
				if ok != (at >= 0) || ok && c != cells[at] || !ok && c != (cell.Cell{}) {
					t.Fatal(key, c, ok)
				}
				if at >= 0 {
					places[at] = ""
					free = append(free, at)
				}
			} else {
				c := cell.New(int64(i), int64(seed))
				got := p.Put(key, c)
				if (got != nil) != (at < 0 && len(free) > 0) || got != nil && *got != c {
					t.Fatal(key, got)
				}
				if got != nil {
					last := free[len(free)-1]
					free = free[:len(free)-1]
					places[last], cells[last] = key, c
				}
			}
			wantAll(t, p, places[:], cells[:], n-len(free))
		}
	}
}

func wantAll(t *testing.T, p *pool.Pool, places []string, cells []cell.Cell, used int) {
	t.Helper()
	if p.Len() != used || p.Full() != (used == len(places)) {
		t.Fatal(p.Len(), p.Full(), used)
	}
	next := 0
	for key, c := range p.All {
		for places[next] == "" {
			next++
		}
		if key != places[next] || c != cells[next] || *p.Find(key) != c {
			t.Fatal(key, c, places, cells)
		}
		next++
		used--
	}
	if used != 0 {
		t.Fatal("not all", used)
	}
}
