package pars

import (
	"cardamom/api"
	"cardamom/word"
)

// Kinds of words, as package word numbers them.
const (
	aName   = 1
	aNumber = 2
	aMark   = 3
)

func parse(s string) (api.Filter, error) {
	l, at, ok := word.All(s)
	if !ok {
		return api.Filter{}, within("words", misfit{at})
	}
	r := reader{left: l, end: len(s)}
	f, err := r.filter()
	if err == nil && len(r.left) > 0 {
		err = r.misfit()
	}
	// What is read is right in all but its depth, which can't be told ahead of the text's end.
	if err == nil && !May(f) {
		err = within("depth", misfit{r.end})
	}
	return f, err
}

// reader has the words of a text that are still to be read, and the byte at which the text ends.
type reader struct {
	left []word.Word
	end  int
}

// next tells the next word: one of no kind at the text's end.
func (r *reader) next() word.Word {
	if len(r.left) == 0 {
		return word.Word{At: r.end}
	}
	return r.left[0]
}

// misfit tells that the next word does not fit, or that the text ends too soon.
func (r *reader) misfit() error { return misfit{r.next().At} }

// filter reads one as long as it can be.
func (r *reader) filter() (api.Filter, error) { return r.row(api.Or, "|", r.allOf) }

// allOf reads what binds ahead of |.
func (r *reader) allOf() (api.Filter, error) { return r.row(api.And, "&", r.single) }

// row reads parts that have a mark between them, and joins them by op from the left.
func (r *reader) row(op int, between string, part func() (api.Filter, error)) (api.Filter, error) {
	f, err := part()
	for err == nil && r.has(between) {
		var next api.Filter
		next, err = part()
		f = api.Filter{Op: op, Args: []api.Filter{f, next}}
		err = within(between, err)
	}
	return f, err
}

// single reads what binds ahead of & and |.
func (r *reader) single() (api.Filter, error) {
	switch {
	case r.has("*"):
		return api.Filter{Op: api.All}, nil
	case r.has("@"):
		f, err := r.attribute()
		return f, within("@", err)
	case r.has("^"):
		tag, err := r.name()
		return api.Filter{Op: api.Prefix, Tag: tag}, within("^", err)
	case r.has("!"):
		f, err := r.single()
		return api.Filter{Op: api.Not, Args: []api.Filter{f}}, within("!", err)
	case r.has("("):
		f, err := r.filter()
		if err == nil {
			err = r.wants(")")
		}
		return f, within("(", err)
	}
	return api.Filter{}, r.misfit()
}

// attribute reads what stands behind @.
func (r *reader) attribute() (api.Filter, error) {
	key, err := r.number(0, api.MaxKey-1)
	if err != nil {
		return api.Filter{}, within("key", err)
	}
	if r.has(":") {
		lo, hi, err := r.ends()
		return api.Filter{Op: api.Range, Key: key, Lo: lo, Hi: hi}, within("range", err)
	}
	if err := r.wants("="); err != nil {
		return api.Filter{}, err
	}
	n, err := r.number(0, api.MaxNum)
	return api.Filter{Op: api.Eq, Key: key, Lo: n, Hi: n}, within("number", err)
}

// ends reads the first number of a range and the last, which does not fit below the first.
func (r *reader) ends() (lo, hi int, err error) {
	if lo, err = r.number(0, api.MaxNum); err != nil {
		return 0, 0, within("first", err)
	}
	if err = r.wants("-"); err != nil {
		return 0, 0, err
	}
	hi, err = r.number(lo, api.MaxNum)
	return lo, hi, within("last", err)
}

// has tells whether the next word is that mark, and reads it if so.
func (r *reader) has(mark string) bool {
	w := r.next()
	if w.Kind != aMark || w.S != mark {
		return false
	}
	r.left = r.left[1:]
	return true
}

func (r *reader) wants(mark string) error {
	if !r.has(mark) {
		return r.misfit()
	}
	return nil
}

func (r *reader) name() (string, error) {
	w := r.next()
	if w.Kind != aName {
		return "", r.misfit()
	}
	r.left = r.left[1:]
	return w.S, nil
}

// number reads one from least to most.
func (r *reader) number(least, most int) (int, error) {
	w := r.next()
	if w.Kind != aNumber || w.N < least || w.N > most {
		return 0, r.misfit()
	}
	r.left = r.left[1:]
	return w.N, nil
}
