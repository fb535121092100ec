package pars

import (
	"strconv"

	"cardamom/api"
)

// How fast an operation binds what it is of: the looser one's text holds the faster one's without brackets.
const (
	loose = iota
	medium
	fast
)

func binds(op int) int {
	switch op {
	case api.Or:
		return loose
	case api.And:
		return medium
	}
	return fast
}

// text tells the text of f, which may be, in brackets if it binds more loosely than it must where it stands.
func text(f api.Filter, must int) string {
	if binds(f.Op) < must {
		return "(" + bare(f) + ")"
	}
	return bare(f)
}

func bare(f api.Filter) string {
	switch f.Op {
	case api.Eq:
		return "@" + strconv.Itoa(f.Key) + "=" + strconv.Itoa(f.Lo)
	case api.Range:
		return "@" + strconv.Itoa(f.Key) + ":" + strconv.Itoa(f.Lo) + "-" + strconv.Itoa(f.Hi)
	case api.Prefix:
		return "^" + f.Tag
	case api.Not:
		return "!" + text(f.Args[0], fast)
	case api.And:
		return joined(f, "&")
	case api.Or:
		return joined(f, "|")
	}
	return "*"
}

// joined tells the text of two with a mark between them. Rows are read from the left, so that only the second must bind faster than the two together.
func joined(f api.Filter, between string) string {
	own := binds(f.Op)
	return text(f.Args[0], own) + between + text(f.Args[1], own+1)
}
