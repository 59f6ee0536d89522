package shell_test

import (
	"cmp"
	"reflect"
	"runtime"
	"slices"
	"testing"
	"unsafe"

	"arras/api"
	"arras/shell"
)

// span of memory: where it begins, where it ends, and what stands there.
type span struct {
	from, to uintptr
	what     string
}

// listSpan: the memory of a list, its spare room too.
func listSpan[T any](l []T, what string) span {
	var x T
	from := uintptr(unsafe.Pointer(unsafe.SliceData(l)))
	return span{from, from + uintptr(cap(l))*unsafe.Sizeof(x), what}
}

// textSpan: the memory of a text.
func textSpan(s, what string) span {
	from := uintptr(unsafe.Pointer(unsafe.StringData(s)))
	return span{from, from + uintptr(len(s)), what}
}

// answerSpans: all memory that answers have, their spare room too.
func answerSpans(l []api.Answer) []span {
	out := []span{listSpan(l, "the answers")}
	for _, x := range l[:cap(l)] {
		out = append(out, textSpan(x.Data, "Data"), listSpan(x.Names, "Names"), listSpan(x.Gone, "Gone"))
		for _, s := range x.Names[:cap(x.Names)] {
			out = append(out, textSpan(s, "a name"))
		}
	}
	return out
}

// arraySpans: all memory that an array has, its spare room too.
func arraySpans(a api.Array) []span {
	out := []span{listSpan(a.Devices, "the devices")}
	for _, d := range a.Devices[:cap(a.Devices)] {
		out = append(out, listSpan(d.Sectors, "Sectors"), listSpan(d.Lost, "Lost"))
		for _, s := range d.Sectors[:cap(d.Sectors)] {
			out = append(out, textSpan(s, "a sector"))
		}
	}
	return out
}

// actSpans: all memory that acts have, their spare room too.
func actSpans(l []api.Act) []span {
	out := []span{listSpan(l, "the acts")}
	for _, x := range l[:cap(l)] {
		out = append(out, textSpan(x.Name, "an act's Name"), listSpan(x.Files, "Files"))
		for _, f := range x.Files[:cap(x.Files)] {
			out = append(out, textSpan(f.Name, "a file's Name"), textSpan(f.Data, "a file's Data"))
		}
	}
	return out
}

// checkApart: no two of these share memory.
func checkApart(t *testing.T, l []span) {
	t.Helper()
	l = slices.DeleteFunc(l, func(x span) bool { return x.from == x.to })
	slices.SortFunc(l, func(x, y span) int { return cmp.Compare(x.from, y.from) })
	for i, x := range l[min(1, len(l)):] {
		if x.from < l[i].to {
			t.Errorf("%s and %s share memory", l[i].what, x.what)
		}
	}
}

// roomy: the same acts, with spare room behind all lists.
func roomy(l []api.Act) []api.Act {
	out := append(slices.Clone(l), add(file("spare", "room")), get("a"), replace(0))
	for i, x := range out {
		out[i].Files = append(slices.Clone(x.Files), file("spare", "1"), file("0", "room"), file("b", ""))[:len(x.Files)]
	}
	return out[:len(l)]
}

// unfold: acts with all spare room laid open, in memory of their own.
func unfold(l []api.Act) []api.Act {
	out := slices.Clone(l[:cap(l)])
	for i, x := range out {
		out[i].Files = slices.Clone(x.Files[:cap(x.Files)])
	}
	return out
}

// scripts in which much is answered, twice as well, and refused.
func scripts() [][]api.Act {
	twice := []api.Act{add(file("b", "the quick fox"), file("a", "hello")), get("b"), get("b"), get("a"), list(), list(), lose(0, 3), lose(1, 3), lose(2, 1), health(), health(), scrub(16), scrub(16), scrub(64), lose(0, 9), turn(2, 0, 9, 9), list(), add(file("c", "one more")), health()}
	gone := []api.Act{list(), health(), scrub(64), replace(0), health(), replace(1), health(), scrub(0), scrub(64), health(), replace(2), get("a"), list()}
	return [][]api.Act{nil, {}, twice, gone, acts(everything()), acts(refusals()), acts(script(everything(), refusals())), {list()}, {lose(0, 0)}, slices.Repeat([]api.Act{health()}, 201)}
}

// Acts that are handed in are not changed, neither their files, nor any spare room.
func TestActsStay(t *testing.T) {
	for i, l := range scripts() {
		for _, many := range []int{16, 64, 15} {
			in := roomy(l)
			before := unfold(in)
			shell.Run(many, in)
			if !reflect.DeepEqual(unfold(in), before) {
				t.Errorf("script %d: what was handed in is changed", i)
			}
		}
	}
}

// Nothing that comes out shares memory with anything else that does, in the same answer or in another one, or with what was handed in.
func TestApart(t *testing.T) {
	for _, l := range scripts() {
		for _, many := range []int{16, 64} {
			in := roomy(l)
			first, a, _ := shell.Run(many, in)
			second, b, _ := shell.Run(many, in)
			out := slices.Concat(answerSpans(first), arraySpans(a), answerSpans(second), arraySpans(b))
			checkApart(t, append(slices.Clone(out), listSpan(in, "the acts")))
			for _, x := range actSpans(in) {
				for _, y := range out {
					if x.from < y.to && y.from < x.to {
						t.Errorf("%s and %s share memory", x.what, y.what)
					}
				}
			}
			runtime.KeepAlive([]any{in, first, a, second, b})
		}
	}
}

// spoil all that was answered, spare room too.
func spoil(l []api.Answer, a api.Array) {
	for i, x := range l {
		for k := range x.Names[:cap(x.Names)] {
			x.Names[:cap(x.Names)][k] = "spoilt"
		}
		for k := range x.Gone[:cap(x.Gone)] {
			x.Gone[:cap(x.Gone)][k] = -7
		}
		l[i] = api.Answer{Code: 99, Data: "spoilt"}
	}
	for i, d := range a.Devices {
		for k := range d.Sectors {
			d.Sectors[k], d.Lost[k] = "spoilt", !d.Lost[k]
		}
		a.Devices[i] = api.Device{}
	}
}

// What is done to one answer is not seen in another one, nor in what was handed in.
func TestAnswersOfTheirOwn(t *testing.T) {
	for i, l := range scripts()[:9] {
		in := roomy(l)
		before := unfold(in)
		first, a := run(t, 16, in)
		second, b := run(t, 16, in)
		want, c := run(t, 16, in)
		spoil(first, a)
		if !sameAnswers(second, want) || !same(b, c) || !reflect.DeepEqual(unfold(in), before) {
			t.Errorf("script %d: an answer is shared", i)
		}
		for k := range in[:cap(in)] {
			in[:cap(in)][k] = api.Act{}
		}
		if !sameAnswers(second, want) || !same(b, c) {
			t.Errorf("script %d: an answer is shared with what was handed in", i)
		}
		// Within one run, too: each answer alone.
		for k := range second {
			spoil(second[k:k+1], api.Array{})
			if !sameAnswers(second[k+1:], want[k+1:]) || !same(b, c) {
				t.Errorf("script %d: the answer to act %d is shared", i, k)
			}
		}
	}
}
