package pack

// texts of a file's string table.
type texts struct {
	places map[string]uint64
	bytes  string
}

// newTexts: a string table that begins with an empty text, which is the name of the symbol that is none.
func newTexts() texts {
	return texts{places: map[string]uint64{}, bytes: "\x00"}
}

// place of a text in the table, which has it from then on.
func (t *texts) place(s string) uint64 {
	at, ok := t.places[s]
	if !ok {
		at = length(t.bytes)
		t.places[s] = at
		t.bytes += s + "\x00"
	}
	return at
}
