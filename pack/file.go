package pack

import (
	"strings"

	"turnbuckle/api"
	"turnbuckle/head"
	"turnbuckle/le"
)

// What may be done with a segment.
const (
	fetched = 1
	stored  = 2
	read    = 4
)

// The header, up to the number of program headers and behind it. What doesn't matter is 0.
const (
	headerBytes  = 64
	segmentBytes = 56
	ident        = "\x7fELF\x02\x01\x01\x00\x00\x00\x00\x00\x00\x00\x00\x00"
	sharedObject = 3
	riscV        = 243
	fileVersion  = 1
)

// tablesAt: the first Load's address. The headers are in no Load, so no page of the image stands ahead of it.
const tablesAt = 0

// loadsAt: where the Loads' bytes begin in the file, behind the headers: there are four to six program headers. It is a multiple
// of Page, since a program header tells that a place in the file and its address are alike modulo Page.
const loadsAt = 2 * api.Page

// parts of a file, from Load to Load.
type parts struct {
	tables  string
	code    string // and the stubs
	arrays  string
	dynamic string
	data    string // and the slots' words ahead of it
}

// load: a Load to be, at an address.
type load struct {
	perm  int
	at    uint64
	bytes string
}

// place in the file of what is at the load's address.
func (g load) place() uint64 { return loadsAt + g.at }

// made: the parts of a spec's file, as they are by a plan.
func made(s Spec, o order, p Plan) parts {
	tables, dynamic := tablesOf(s, o, p)
	return parts{
		tables:  tables,
		code:    s.Code + stubs(p, len(s.Slots)),
		arrays:  words(len(s.Init) + len(s.Fini)),
		dynamic: dynamic,
		data:    words(len(s.Slots)) + s.Data,
	}
}

// sealed: what the third Load has, which is stored for as long as the file is relocated.
func (x parts) sealed() string { return x.arrays + x.dynamic }

// loads of the parts, but those without bytes.
func (x parts) loads(p Plan) []load {
	var l []load
	for _, g := range [...]load{
		{read, tablesAt, x.tables},
		{read | fetched, p.Code, x.code},
		{read | stored, p.Arrays, x.sealed()},
		{read | stored, p.Slots, x.data},
	} {
		if g.bytes != "" {
			l = append(l, g)
		}
	}
	return l
}

// file of the parts: the Loads stand in it as far from one another as in the image.
func file(p Plan, x parts) string {
	loads := x.loads(p)
	heads := headers(loads, p, x)
	var b strings.Builder
	b.WriteString(header(len(heads)))
	for _, h := range heads {
		b.WriteString(segmentHeader(h))
	}
	for _, g := range loads {
		b.WriteString(strings.Repeat("\x00", int(g.place())-b.Len()))
		b.WriteString(g.bytes)
	}
	return b.String()
}

// headers of the segments: the Loads, the dynamic section, and what is sealed.
func headers(loads []load, p Plan, x parts) []head.Segment {
	var l []head.Segment
	for _, g := range loads {
		l = append(l, segment(head.Load, g))
	}
	dynamic := segment(head.Dynamic, load{read | stored, p.Arrays + length(x.arrays), x.dynamic})
	relro := segment(head.Relro, load{read, p.Arrays, x.sealed()})
	// Only pages that lie wholly in it are sealed, and the last one is to be, too.
	relro.Mem = nextPage(relro.Mem)
	return append(l, dynamic, relro)
}

// segment of a kind that has what a Load has.
func segment(kind uint32, g load) head.Segment {
	n := length(g.bytes)
	return head.Segment{Kind: kind, Perm: g.perm, Off: g.place(), Addr: g.at, File: n, Mem: n}
}

// header of a file with so many program headers.
func header(segments int) string {
	return ident +
		le.Put(sharedObject, 2) + le.Put(riscV, 2) + le.Put(fileVersion, 4) +
		le.Put(0, 8) + le.Put(headerBytes, 8) + le.Put(0, 8) + le.Put(0, 4) +
		le.Put(headerBytes, 2) + le.Put(segmentBytes, 2) + le.Put(uint64(segments), 2) +
		le.Put(0, 6)
}

// segmentHeader: a program header.
func segmentHeader(g head.Segment) string {
	return le.Put(uint64(g.Kind), 4) + le.Put(uint64(g.Perm), 4) +
		le.Put(g.Off, 8) + le.Put(g.Addr, 8) + le.Put(g.Addr, 8) +
		le.Put(g.File, 8) + le.Put(g.Mem, 8) + le.Put(api.Page, 8)
}

// words: so many that are 0, till they are relocated.
func words(n int) string { return strings.Repeat("\x00", wordBytes*n) }
