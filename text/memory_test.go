package text_test

import (
	"strings"
	"testing"
	"unsafe"

	"tableau/api"
	"tableau/guard"
	"tableau/sample"
	"tableau/text"
)

// TestMemoryOfPrint: with models that are well formed, and with some that are not.
func TestMemoryOfPrint(t *testing.T) {
	models := sample.Models()
	for i, b := range sample.Brokens() {
		if i%7 == 0 {
			models = append(models, b.M)
		}
	}
	for i, m := range models {
		m = guard.Model(m)
		if fault := guard.Fault(func(b *guard.Book) { b.Model(m) }, func(b *guard.Book) { text.Print(m) }); fault != "" {
			t.Errorf("Print of model %d: %s", i, fault)
		}
	}
}

// TestMemoryOfParse: no two lists of an answer share memory, nor do two answers.
func TestMemoryOfParse(t *testing.T) {
	for i, m := range sample.Models() {
		s, _ := text.Print(m)
		fault := guard.Fault(func(b *guard.Book) {}, func(b *guard.Book) {
			m, _, _ := text.Parse(s)
			b.Model(m)
		})
		if fault != "" {
			t.Errorf("Parse of model %d's text: %s", i, fault)
		}
	}
}

// TestMemoryOfNames: a name is no piece of the text, which would be kept by it.
func TestMemoryOfNames(t *testing.T) {
	s := strings.Clone(first)
	from := uintptr(unsafe.Pointer(unsafe.StringData(s)))
	m, _, e := text.Parse(s)
	if e != api.OK || len(m.Cols) != 2 || len(m.Rows) != 1 {
		t.Fatalf("P9.2: Parse = %v, %d", m, e)
	}
	for _, name := range []string{m.Cols[0].Name, m.Cols[1].Name, m.Rows[0].Name} {
		if at := uintptr(unsafe.Pointer(unsafe.StringData(name))); at >= from && at < from+uintptr(len(s)) {
			t.Errorf("the name %s is a piece of the text", name)
		}
	}
}
