package ring

import (
	"math"
	"math/rand"
	"slices"
	"testing"

	"crier/api"
)

// made is a ring with room for max things, into which l was pushed.
func made[T any](t *testing.T, max int, l ...T) *Ring[T] {
	t.Helper()
	r, err := New[T](max)
	if err != api.OK || r == nil {
		t.Fatalf("New(%d): %v, %v", max, r, err)
	}
	for i, x := range l {
		if !r.Push(x) {
			t.Fatalf("Push of %v, the thing %d of %d: false", x, i, max)
		}
	}
	return r
}

// turned is such a ring, in whose circle by places were gone over ahead of l.
func turned(t *testing.T, max, by int, l ...string) *Ring[string] {
	t.Helper()
	r := made[string](t, max)
	for range max {
		r.Push("gone")
	}
	for range by {
		r.Pop()
		r.Push("gone")
	}
	r.Clear()
	for _, x := range l {
		r.Push(x)
	}
	return r
}

// told are the things that All tells; their places must be from 0 on.
func told[T any](t *testing.T, r *Ring[T]) []T {
	t.Helper()
	var l []T
	for i, x := range r.All() {
		if i != len(l) {
			t.Errorf("All: the place %d where %d is due", i, len(l))
		}
		l = append(l, x)
	}
	return l
}

// stands says whether what r tells of itself is that it holds l.
func stands[T comparable](t *testing.T, r *Ring[T], l ...T) {
	t.Helper()
	if got := told(t, r); r.Len() != len(l) || !slices.Equal(got, l) {
		t.Errorf("it holds %v (%d), want %v", got, r.Len(), l)
	}
	var none T
	for _, i := range []int{math.MinInt, -len(l) - 1, -2, -1, len(l), len(l) + 1, most, 1 << 32, math.MaxInt} {
		if x, ok := r.At(i); ok || x != none {
			t.Errorf("At(%d) of %d: %v, %v", i, len(l), x, ok)
		}
	}
	for i, want := range l {
		if x, ok := r.At(i); !ok || x != want {
			t.Errorf("At(%d): %v, %v, want %v", i, x, ok, want)
		}
	}
}

// P5.1, P5.2: the chapter's example.
func TestExample(t *testing.T) {
	r := made[string](t, 2)
	if !r.Push("a") || !r.Push("b") {
		t.Error("Push(a), Push(b)")
	}
	if r.Push("c") {
		t.Error("Push(c)")
	}
	if x, ok := r.At(1); x != "b" || !ok {
		t.Error("At(1)", x, ok)
	}
	if x, ok := r.Pop(); x != "a" || !ok {
		t.Error("Pop", x, ok)
	}
	if !r.Push("d") {
		t.Error("Push(d)")
	}
	stands(t, r, "b", "d")
}

// P5.1: New takes 1 to 65536, and makes an empty ring.
func TestNew(t *testing.T) {
	for _, max := range []int{1, 2, 5, 64, 65535, 65536} {
		stands(t, made[int](t, max))
	}
	for _, max := range []int{0, -1, -65536, math.MinInt, 65537, 1 << 17, 1 << 32, 1<<32 + 1, math.MaxInt} {
		if r, err := New[int](max); r != nil || err != api.ErrArg {
			t.Errorf("New(%d): %v, %v", max, r, err)
		}
	}
}

// P5.1: as many things as may be are pushed, one more is not, and changes nothing.
func TestPushFull(t *testing.T) {
	for _, max := range []int{1, 2, 3, 4, 5, 7, 8, 9, 64, 100} {
		r := made[int](t, max)
		var want []int
		for i := range max {
			stands(t, r, want...)
			if !r.Push(i) {
				t.Errorf("Push, the thing %d of %d: false", i, max)
			}
			want = append(want, i)
		}
		for range 3 {
			if r.Push(-1) {
				t.Errorf("Push, one more than %d: true", max)
			}
			stands(t, r, want...)
		}
	}
}

// P5.1: the most that may be.
func TestPushMost(t *testing.T) {
	r := made[int](t, most)
	for i := range most {
		if !r.Push(i) {
			t.Fatal("Push", i)
		}
	}
	if r.Push(most) || r.Len() != most {
		t.Error("one more", r.Len())
	}
	for i := range most {
		if x, ok := r.Pop(); x != i || !ok {
			t.Fatal("Pop", i, x, ok)
		}
	}
	stands(t, r)
}

// P5.1: Pop takes the first thing; of none a zero value, false.
func TestPop(t *testing.T) {
	r := made(t, 3, "a", "b", "c")
	for i, want := range []string{"a", "b", "c"} {
		if x, ok := r.Pop(); x != want || !ok {
			t.Errorf("Pop: %q, %v, want %q", x, ok, want)
		}
		stands(t, r, []string{"a", "b", "c"}[i+1:]...)
	}
	for range 3 {
		if x, ok := r.Pop(); x != "" || ok {
			t.Errorf("Pop of none: %q, %v", x, ok)
		}
		stands(t, r)
	}
	if !r.Push("d") {
		t.Error("Push behind Pop of none")
	}
	stands(t, r, "d")
}

// P5.2: At and Set, wherever in its circle the first thing stands.
func TestSet(t *testing.T) {
	for by := range 6 {
		for i := -7; i < 12; i++ {
			want := []string{"a", "b", "c"}
			has := i >= 0 && i < 3
			if has {
				want[i] = "z"
			}
			r := turned(t, 5, by, "a", "b", "c")
			if ok := r.Set(i, "z"); ok != has {
				t.Errorf("Set(%d): %v", i, ok)
			}
			stands(t, r, want...)
			r.Push("d")
			r.Push("e")
			stands(t, r, append(want, "d", "e")...)
		}
	}
	r := made[string](t, 5)
	for _, i := range []int{math.MinInt, -1, 0, 1, 4, 5, math.MaxInt} {
		if r.Set(i, "z") {
			t.Errorf("Set(%d) of none", i)
		}
		stands(t, r)
	}
}

// P5.2: what stood ahead of Pop, and what is behind the last thing, is not to be set.
func TestSetBehindPop(t *testing.T) {
	r := made(t, 3, "a", "b", "c")
	r.Pop()
	if r.Set(2, "z") || r.Set(-1, "z") || !r.Set(0, "y") {
		t.Error("Set behind Pop")
	}
	stands(t, r, "y", "c")
}

// P5.2: a walk goes over what was there when it began, whatever is done on the way.
func TestAllStays(t *testing.T) {
	for name, do := range map[string]func(r *Ring[string], i int){
		"nothing": func(*Ring[string], int) {},
		"push":    func(r *Ring[string], _ int) { r.Push("z") },
		"pop":     func(r *Ring[string], _ int) { r.Pop() },
		"set":     func(r *Ring[string], i int) { r.Set(0, "x"); r.Set(i+1, "y"); r.Set(2, "z") },
		"clear":   func(r *Ring[string], _ int) { r.Clear() },
		"all of it": func(r *Ring[string], _ int) {
			r.Pop()
			r.Push("z")
			r.Set(0, "y")
			for range r.All() {
				r.Clear()
				r.Push("x")
			}
		},
	} {
		for by := range 6 {
			r := turned(t, 5, by, "a", "b", "c")
			var got []string
			for i, x := range r.All() {
				if i != len(got) {
					t.Errorf("%s: the place %d where %d is due", name, i, len(got))
				}
				got = append(got, x)
				do(r, i)
			}
			if !slices.Equal(got, []string{"a", "b", "c"}) {
				t.Errorf("%s: %v", name, got)
			}
		}
	}
}

// P5.2: what is done on the way is done.
func TestAllDone(t *testing.T) {
	r := made(t, 4, "a", "b", "c")
	for i, x := range r.All() {
		r.Pop()
		r.Push(x + x)
		r.Set(0, "y")
		if i == 1 {
			break
		}
	}
	stands(t, r, "y", "aa", "bb")
}

// P5.2: a walk begins when it is gone; one function may be walked often, and left.
func TestAllBegins(t *testing.T) {
	r := made(t, 4, "a", "b")
	all := r.All()
	r.Push("c")
	for _, want := range []string{"abc", "abc"} {
		got := ""
		for _, x := range all {
			got += x
		}
		if got != want {
			t.Errorf("%q, want %q", got, want)
		}
	}
	n := 0
	for range all {
		n++
		break
	}
	if n != 1 {
		t.Error("a walk that was left went on", n)
	}
	r.Clear()
	for i, x := range all {
		t.Error("of none", i, x)
	}
}

// P5.2: walks within walks are apart.
func TestAllNested(t *testing.T) {
	r := made(t, 3, "a", "b", "c")
	got := ""
	for _, x := range r.All() {
		for _, y := range r.All() {
			got += x + y + " "
		}
		r.Pop()
	}
	if got != "aa ab ac bb bc cc " {
		t.Error(got)
	}
}

// P5.2: Clear lets all go, and tells how many.
func TestClear(t *testing.T) {
	all := []string{"a", "b", "c", "d", "e"}
	for by := range 6 {
		for n := range 6 {
			r := turned(t, 5, by, all[:n]...)
			if got := r.Clear(); got != n {
				t.Errorf("Clear of %d: %d", n, got)
			}
			stands(t, r)
			if x, ok := r.Pop(); x != "" || ok {
				t.Errorf("Pop behind Clear: %q, %v", x, ok)
			}
			if got := r.Clear(); got != 0 {
				t.Errorf("Clear of none: %d", got)
			}
			for _, x := range all {
				if !r.Push(x) {
					t.Errorf("Push(%s) behind Clear: false", x)
				}
			}
			if r.Push("f") {
				t.Error("Push of one too many behind Clear")
			}
			stands(t, r, all...)
		}
	}
}

// P5.2: a nil ring, and one that New did not make, have no things and no room.
func TestNotMade(t *testing.T) {
	for name, r := range map[string]*Ring[string]{"nil": nil, "not made": {}} {
		for range 2 {
			if r.Push("a") || r.Set(0, "a") || r.Set(-1, "a") {
				t.Errorf("%s: something was taken", name)
			}
			if x, ok := r.Pop(); x != "" || ok {
				t.Errorf("%s: Pop: %q, %v", name, x, ok)
			}
			if n := r.Clear(); n != 0 {
				t.Errorf("%s: Clear: %d", name, n)
			}
			stands(t, r)
		}
	}
}

// R1: the function that All answers takes no function, too.
func TestAllOfNoFunction(t *testing.T) {
	for _, r := range []*Ring[string]{nil, {}, made(t, 2, "a")} {
		r.All()(nil)
	}
}

// P5.1 to P5.3: whatever is done, a list that is cut at its front and grows at its end says the same.
func TestAgainstList(t *testing.T) {
	random := rand.New(rand.NewSource(5))
	for _, max := range []int{1, 2, 3, 4, 7, 8, 64, 257} {
		r := made[int](t, max)
		var plain, pushed, popped []int
		for i := 1; i < 4000; i++ {
			// now more is pushed, now more is popped, so that it is full and empty again and again
			for range random.Intn(4) + 3*(i/300%2) {
				x := random.Int()
				room := len(plain) < max
				if r.Push(x) != room {
					t.Fatalf("Push on %d of %d: %v", len(plain), max, !room)
				}
				if room {
					plain, pushed = append(plain, x), append(pushed, x)
				}
			}
			if at := random.Intn(max+2) - 1; at%3 == 0 {
				has := at >= 0 && at < len(plain)
				if r.Set(at, i) != has {
					t.Fatalf("Set(%d) on %d: %v", at, len(plain), !has)
				}
				if has {
					pushed[len(popped)+at], plain[at] = i, i
				}
			}
			for range random.Intn(4) + 3*(i/300%2^1) {
				x, ok := r.Pop()
				if ok != (len(plain) > 0) || ok && x != plain[0] || !ok && x != 0 {
					t.Fatalf("Pop on %v: %v, %v", plain, x, ok)
				}
				if ok {
					plain, popped = plain[1:], append(popped, x)
				}
			}
			stands(t, r, plain...)
		}
		if !slices.Equal(append(popped, plain...), pushed) {
			t.Error("what was popped is not what was pushed")
		}
	}
}

// P5.3: things of any type, those that are held against nothing, too.
func TestTypes(t *testing.T) {
	n := 7
	pointers := made(t, 2, &n, nil)
	if x, ok := pointers.Pop(); x != &n || !ok {
		t.Error("pointer", x, ok)
	}
	if x, ok := pointers.Pop(); x != nil || !ok {
		t.Error("a nil that was pushed", x, ok)
	}
	if x, ok := pointers.Pop(); x != nil || ok {
		t.Error("pointer of none", x, ok)
	}
	functions := made(t, 2, func() int { return n }, nil)
	if f, ok := functions.Pop(); !ok || f() != 7 {
		t.Error("function")
	}
	lists := made(t, 2, []int{1, 2}, []int{3})
	if l, ok := lists.At(1); !ok || !slices.Equal(l, []int{3}) {
		t.Error("list", l, ok)
	}
	any1 := made[any](t, 3, 1, "a", nil)
	if got := told(t, any1); !slices.Equal(got, []any{1, "a", nil}) {
		t.Error("any", got)
	}
	none := made(t, 2, struct{}{}, struct{}{})
	if none.Push(struct{}{}) || none.Len() != 2 || none.Clear() != 2 {
		t.Error("without bytes", none.Len())
	}
	structs := made(t, 1, struct {
		a int
		b string
	}{1, "b"})
	if x, ok := structs.Pop(); x.a != 1 || x.b != "b" || !ok {
		t.Error("struct", x, ok)
	}
}

// R3: rings know nothing of one another.
func TestApart(t *testing.T) {
	a, b := made(t, 3, "a", "b"), made(t, 3, "c")
	a.Pop()
	b.Push("d")
	a.Set(0, "e")
	stands(t, a, "e")
	stands(t, b, "c", "d")
}

// Whatever goes is no longer held, however it goes.
func TestGoneIsCleared(t *testing.T) {
	for by := range 6 {
		r := turned(t, 5, by, "a", "b", "c", "d")
		r.Pop()
		r.Pop()
		if n := held(r); n != 2 {
			t.Errorf("%d things are held of 2", n)
		}
		r.Clear()
		if n := held(r); n != 0 {
			t.Errorf("%d things are held of none", n)
		}
	}
}

// held is how many places of the circle, those behind its end too, have a thing.
func held(r *Ring[string]) int {
	n := 0
	for _, x := range r.circle[:cap(r.circle)] {
		if x != "" {
			n++
		}
	}
	return n
}

// R1: a ring that may have many great things has no room for them ahead of their coming.
func TestGreat(t *testing.T) {
	type great [1 << 20]byte
	r := made[great](t, most)
	var x great
	x[5] = 7
	for range 5 {
		if !r.Push(x) {
			t.Fatal("Push")
		}
	}
	if y, ok := r.Pop(); y[5] != 7 || !ok || r.Len() != 4 {
		t.Error("Pop", ok, r.Len())
	}
	if c := cap(r.circle); c > 16 {
		t.Errorf("%d places for 5 things", c)
	}
}

// R1: many things that come and go, with many waiting, come to an end soon; there is no more room than may be.
func TestMany(t *testing.T) {
	r := made[int](t, most)
	for i := range most - 1 {
		r.Push(i)
	}
	for i := range 1 << 21 {
		if !r.Push(most - 1 + i) {
			t.Fatal("Push", i)
		}
		if x, ok := r.Pop(); x != i || !ok {
			t.Fatal("Pop", i, x)
		}
	}
	if c := cap(r.circle); c > most {
		t.Errorf("%d places for %d things", c, most)
	}
	if n := r.Clear(); n != most-1 {
		t.Error("Clear", n)
	}
}

// R1: as a ring is filled, its things are copied a few times each, not once for each one that comes.
func TestWidensSeldom(t *testing.T) {
	allocations := testing.AllocsPerRun(3, func() {
		r := made[int](t, most)
		for i := range most {
			r.Push(i)
		}
	})
	if allocations > 40 {
		t.Errorf("%v allocations for %d things", allocations, most)
	}
}
