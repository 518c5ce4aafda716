package desk

import (
	"slices"
	"strings"

	"floodgate/api"
	"floodgate/inspect"
)

const (
	mostLine  = 500
	mostSmall = 1<<31 - 1
	mostGreat = 1<<64 - 1
	mostHead  = 1<<16 - 1
	// how many words a class has
	classWords = 8
)

// reader reads the words behind a line's first one, of which there are so many.
type reader struct {
	words int
	read  func(words []string) command
}

// read is the command of a line; it gives up, if there is none.
func read(s string) command {
	if len(s) > mostLine {
		give(api.ErrLong)
	}
	words := strings.Split(s, " ")
	r := readerOf(words[0])
	if slices.Contains(words, "") || r.read == nil || len(words)-1 != r.words {
		give(api.ErrForm)
	}
	return r.read(words[1:])
}

// readerOf is what reads lines with that first word.
func readerOf(word string) reader {
	switch word {
	case "link":
		return reader{2, func(w []string) command { return linkLine{api.Config{T: small(w[0]), Lmax: small(w[1])}} }}
	case "add":
		return reader{classWords, func(w []string) command { return changeLine{api.Change{Kind: api.ChAdd, Class: class(w)}} }}
	case "set":
		return reader{classWords, func(w []string) command { return changeLine{api.Change{Kind: api.ChSet, Class: class(w)}} }}
	case "del":
		return reader{1, func(w []string) command {
			return changeLine{api.Change{Kind: api.ChDel, Class: api.Class{ID: small(w[0])}}}
		}}
	case "commit":
		return reader{0, func([]string) command { return commitLine{} }}
	case "rule":
		return reader{3, func(w []string) command {
			return ruleLine{api.Rule{Mask: header(w[0]), Want: header(w[1]), Class: small(w[2])}}
		}}
	case "rules":
		return reader{0, func([]string) command { return rulesLine{} }}
	case "put":
		return reader{3, func(w []string) command {
			return putLine{api.Packet{ID: great(w[0]), Len: small(w[1]), Head: header(w[2])}}
		}}
	case "go":
		return reader{1, func(w []string) command { return goLine{great(w[0])} }}
	case "forget":
		return reader{0, func([]string) command { return forgetLine{} }}
	case "show":
		return reader{0, func([]string) command { return showLine{} }}
	case "clock":
		return reader{0, func([]string) command { return clockLine{} }}
	case "class":
		return reader{1, func(w []string) command { return classLine{small(w[0])} }}
	}
	return reader{}
}

// upTo is a number that is at most so great.
func upTo(s string, most uint64) uint64 {
	v, err := inspect.Number(s, most)
	give(err)
	return v
}

func small(s string) int { return int(upTo(s, mostSmall)) }

func great(s string) uint64 { return upTo(s, mostGreat) }

// class is a class out of its words.
func class(words []string) api.Class {
	c, err := inspect.ParseClass(strings.Join(words, " "))
	give(err)
	return c
}

// header is a header out of a text.
func header(s string) api.Header {
	var h api.Header
	pieces := strings.Split(s, ".")
	if len(pieces) != len(h) {
		give(api.ErrForm)
	}
	for i, p := range pieces {
		h[i] = uint16(upTo(p, mostHead))
	}
	return h
}
