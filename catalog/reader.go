package catalog

import (
	"strings"

	"arras/api"
)

// reader takes bytes from the front of those that are left. Behind the place where they end too early it takes nothing any more, so that it is enough to ask for short at the end.
type reader struct {
	rest  string
	short bool
}

// take so many bytes.
func (r *reader) take(many int) string {
	if many > len(r.rest) {
		r.rest, r.short = "", true
		return ""
	}
	s := r.rest[:many]
	r.rest = r.rest[many:]
	return s
}

// number of so many bytes, the higher one first.
func (r *reader) number(bytes int) int {
	s := r.take(bytes)
	n := 0
	for i := range len(s) {
		n = n<<8 | int(s[i])
	}
	return n
}

// blocks that stand there, each behind the one ahead.
func (r *reader) blocks() []api.Block {
	var l []api.Block
	for range r.number(1) {
		l = append(l, api.Block{First: behind(l), Bytes: r.number(2)})
	}
	return l
}

// entries that stand there.
func (r *reader) entries() []api.Entry {
	var l []api.Entry
	for range r.number(1) {
		l = append(l, r.entry())
	}
	return l
}

// entry that stands there.
func (r *reader) entry() api.Entry {
	x := api.Entry{}
	x.Name = strings.Clone(r.take(r.number(1)))
	x.Block = r.number(1)
	x.At = r.number(2)
	x.Bytes = r.number(1)
	return x
}
