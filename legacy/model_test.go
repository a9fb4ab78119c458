package legacy

import (
	"encoding/binary"
	"fmt"
	"math"
	"math/rand"
	"reflect"
	"strconv"
	"strings"

	"wharf/api"
	"wharf/glyph"
	"wharf/handle"
)

// short makes long texts fit to be told.
func short(s string) string {
	if len(s) > 120 {
		return strconv.Quote(s[:120]) + ".. (" + strconv.Itoa(len(s)) + " bytes)"
	}
	return strconv.Quote(s)
}

func tell(n api.Note) string {
	s := fmt.Sprintf("%+v", n)
	return s[:min(len(s), 400)]
}

// part is a piece of a note's bytes, which can be written and read. What it reads is just what it writes.
type part struct {
	put func(n api.Note) string
	get func(n *api.Note, b string) (string, bool)
}

func be(n int64, width int) string {
	b := make([]byte, 8)
	binary.BigEndian.PutUint64(b, uint64(n))
	return string(b[8-width:])
}

func num(s string) int64 {
	return int64(binary.BigEndian.Uint64([]byte(strings.Repeat("\x00", 8-len(s)) + s)))
}

// at is the field of n that is called so.
func at(n *api.Note, field string) reflect.Value {
	return reflect.ValueOf(n).Elem().FieldByName(field)
}

func constant(s string) part {
	return part{
		func(api.Note) string { return s },
		func(n *api.Note, b string) (string, bool) { return strings.CutPrefix(b, s) },
	}
}

// number is the field in so many bytes.
func number(width int, field string) part {
	return part{
		func(n api.Note) string { return be(at(&n, field).Int(), width) },
		func(n *api.Note, b string) (string, bool) {
			if len(b) < width {
				return "", false
			}
			at(n, field).SetInt(num(b[:width]))
			return b[width:], true
		},
	}
}

// solid is the field with so many bytes; all that there are, if it is below 0.
func solid(size int, field string) part {
	return part{
		func(n api.Note) string { return at(&n, field).String() },
		func(n *api.Note, b string) (string, bool) {
			size := size
			if size < 0 {
				size = len(b)
			}
			if len(b) < size {
				return "", false
			}
			at(n, field).SetString(b[:size])
			return b[size:], true
		},
	}
}

// sized is all of in behind the number of its bytes.
func sized(width int, in part) part {
	return part{
		func(n api.Note) string {
			b := in.put(n)
			return be(int64(len(b)), width) + b
		},
		func(n *api.Note, b string) (string, bool) {
			if len(b) < width || int64(len(b)-width) < num(b[:width]) {
				return "", false
			}
			end := width + int(num(b[:width]))
			rest, ok := in.get(n, b[width:end])
			return b[end:], ok && rest == ""
		},
	}
}

func text(width int, field string) part { return sized(width, solid(-1, field)) }

func value(kind int64, in part) part { return all(constant(be(kind, 2)), sized(2, in)) }

func all(l ...part) part {
	return part{
		func(n api.Note) string {
			b := ""
			for _, p := range l {
				b += p.put(n)
			}
			return b
		},
		func(n *api.Note, b string) (string, bool) {
			ok := true
			for _, p := range l {
				if b, ok = p.get(n, b); !ok {
					return "", false
				}
			}
			return b, true
		},
	}
}

// either is one, if the field is not the zero value, and else the other one.
func either(field string, one, other part) part {
	return part{
		func(n api.Note) string {
			if !at(&n, field).IsZero() {
				return one.put(n)
			}
			return other.put(n)
		},
		func(n *api.Note, b string) (string, bool) {
			m := *n
			if rest, ok := one.get(&m, b); ok && !at(&m, field).IsZero() {
				*n = m
				return rest, true
			}
			return other.get(n, b)
		},
	}
}

func yesNo() part {
	return part{
		func(n api.Note) string {
			if n.Ok {
				return "\x01"
			}
			return "\x00"
		},
		func(n *api.Note, b string) (string, bool) {
			if b == "" || b[0] > 1 {
				return "", false
			}
			n.Ok = b[0] == 1
			return b[1:], true
		},
	}
}

// itemBytes are those of one item.
func itemBytes(it api.Item) string {
	marks := ""
	if it.Alias != "" {
		marks = "\x01\x31" + be(int64(len(it.Alias)), 2) + it.Alias
	}
	if it.Await {
		marks += "\x00\x66\x00\x00"
	}
	return be(int64(len(it.Name)), 2) + it.Name + be(int64(it.Group), 2) + be(int64(it.Id), 2) + be(int64(it.Type), 2) + be(int64(len(marks)), 2) + marks
}

// cutItem takes one off b.
func cutItem(b string) (api.Item, string, bool) {
	var it api.Item
	var name, marks string
	cut := func(s *string) bool {
		if len(b) < 2 || len(b)-2 < int(num(b[:2])) {
			return false
		}
		end := 2 + int(num(b[:2]))
		*s, b = b[2:end], b[end:]
		return true
	}
	if !cut(&name) || len(b) < 6 {
		return it, "", false
	}
	it = api.Item{Name: name, Group: int(num(b[:2])), Id: int(num(b[2:4])), Type: int(num(b[4:6]))}
	b = b[6:]
	if !cut(&marks) {
		return it, "", false
	}
	if len(marks) > 4 && marks[:2] == "\x01\x31" {
		size := int(num(marks[2:4]))
		if len(marks) < 4+size {
			return it, "", false
		}
		it.Alias, marks = marks[4:4+size], marks[4+size:]
	}
	it.Await = marks == "\x00\x66\x00\x00"
	return it, b, it.Await || marks == ""
}

func putItems(n api.Note) string {
	b := ""
	for _, it := range n.Items {
		b += itemBytes(it)
	}
	return b
}

// getItems reads count of them; all that there are, if it is below 0.
func getItems(n *api.Note, b string, count int) (string, bool) {
	for i := 0; i != count && (b != "" || count >= 0); i++ {
		it, rest, ok := cutItem(b)
		if !ok {
			return "", false
		}
		n.Items = append(n.Items, it)
		b = rest
	}
	return b, true
}

func items() part {
	return part{putItems, func(n *api.Note, b string) (string, bool) { return getItems(n, b, -1) }}
}

func counted() part {
	return part{
		func(n api.Note) string { return be(int64(len(n.Items)), 2) + putItems(n) },
		func(n *api.Note, b string) (string, bool) {
			if len(b) < 2 {
				return "", false
			}
			return getItems(n, b[2:], int(num(b[:2])))
		},
	}
}

func codes() part {
	return part{
		func(n api.Note) string {
			b := ""
			for _, c := range n.Codes {
				b += be(int64(c), 2)
			}
			return b
		},
		func(n *api.Note, b string) (string, bool) {
			for ; len(b) >= 2; b = b[2:] {
				n.Codes = append(n.Codes, int(num(b[:2])))
			}
			return b, true
		},
	}
}

// span is from where to where a number is, or a length.
type span [2]int64

// row is one of the table of P14.1.
type row struct {
	kind, channel, family, sub int
	fields                     map[string]span // Name and Ok have the zero span
	bytes                      part
}

const (
	twoBytes  = 65535
	fourBytes = 4294967295
)

// table is that of P14.1.
func table() []row {
	type f = map[string]span
	none := constant("")
	var two, four, name = span{0, twoBytes}, span{0, fourBytes}, span{}
	words, some := span{0, 2000}, span{1, 100}
	one := constant("\x00\x00\x00\x01")
	status := value(6, number(4, "Status"))
	sent := all(solid(8, "Data"), text(1, "Name"), value(2, solid(-1, "Text")))
	when := all(number(4, "Time"), number(2, "Code"))
	asked := all(text(1, "Name"), text(2, "Text"))
	granted := all(text(1, "Name"), yesNo(), text(2, "Text"))
	why := either("Data", value(6, solid(-1, "Data")), value(8, number(2, "Code")))
	return []row{
		{1, 1, 0, 0, f{}, one},
		{2, 1, 0, 0, f{"Data": {1, 256}}, all(one, value(6, solid(-1, "Data")))},
		{3, 4, 0, 0, f{"Code": two}, either("Code", value(9, number(2, "Code")), none)},
		{4, 5, 0, 0, f{}, none},
		{5, 2, 0x17, 6, f{"Name": name}, value(1, solid(-1, "Name"))},
		{6, 2, 0x17, 7, f{"Data": {1, 64}}, text(2, "Data")},
		{7, 2, 0x17, 2, f{"Name": name, "Data": {16, 16}}, all(value(1, solid(-1, "Name")), value(0x25, solid(-1, "Data")))},
		{8, 2, 0x17, 3, f{"Name": name, "Data": {0, 256}, "Code": two}, all(value(1, solid(-1, "Name")), why)},
		{9, 2, 1, 3, f{}, none},
		{10, 2, 1, 2, f{}, none},
		{11, 2, 1, 0x1e, f{"Status": two}, status},
		{12, 2, 1, 0x11, f{"Idle": four}, number(4, "Idle")},
		{13, 2, 3, 0xb, f{"Name": name, "Status": two, "Idle": two}, all(text(1, "Name"), status, value(4, number(2, "Idle")))},
		{14, 2, 3, 0xc, f{"Name": name}, text(1, "Name")},
		{15, 2, 4, 6, f{"Name": name, "Text": words, "Data": {8, 8}}, sent},
		{16, 2, 4, 7, f{"Name": name, "Text": words, "Data": {8, 8}}, sent},
		{17, 2, 0x13, 5, f{"Time": four, "Code": two}, when},
		{18, 2, 0x13, 6, f{"Items": {0, 100}, "Time": four}, all(counted(), number(4, "Time"))},
		{19, 2, 0x13, 0xf, f{"Time": four, "Code": two}, when},
		{20, 2, 0x13, 8, f{"Items": some}, items()},
		{21, 2, 0x13, 9, f{"Items": some}, items()},
		{22, 2, 0x13, 0xa, f{"Items": some}, items()},
		{23, 2, 0x13, 0x11, f{}, none},
		{24, 2, 0x13, 0x12, f{}, none},
		{25, 2, 0x13, 0xe, f{"Codes": some}, codes()},
		{26, 2, 0x13, 0x18, f{"Name": name, "Text": words}, asked},
		{27, 2, 0x13, 0x19, f{"Name": name, "Text": words}, asked},
		{28, 2, 0x13, 0x1a, f{"Name": name, "Ok": {}, "Text": words}, granted},
		{29, 2, 0x13, 0x1b, f{"Name": name, "Ok": {}, "Text": words}, granted},
	}
}

// rows is the table, for tests that ask it often.
var rows = table()

func rowOf(kind int) (row, bool) {
	if kind < 1 || kind > 29 {
		return row{}, false
	}
	return rows[kind-1], rows[kind-1].kind == kind
}

// itemOk says of an item whether it may be, by the words of P14.1.
func itemOk(it api.Item) bool {
	if it.Group < 0 || it.Group > twoBytes || it.Id < 0 || it.Id > twoBytes {
		return false
	}
	if it.Type == 0 {
		return handle.Check(it.Name) == api.OK && glyph.Check(it.Alias) == api.OK && len(it.Alias) <= 64
	}
	return it.Type == 1 && glyph.Check(it.Name) == api.OK && len(it.Name) <= 64 && it.Alias == "" && !it.Await
}

// checkOf says Check by the words of P14.1.
func checkOf(n api.Note) api.Errno {
	r, ok := rowOf(n.Kind)
	if !ok {
		return api.ErrLegacy
	}
	v := reflect.ValueOf(n)
	for i := range v.NumField() {
		field, name := v.Field(i), v.Type().Field(i).Name
		if name == "Kind" {
			continue
		}
		s, ok := r.fields[name]
		size := int64(0)
		switch field.Kind() {
		case reflect.String, reflect.Slice:
			size = int64(field.Len())
		case reflect.Int, reflect.Int64:
			size = field.Int()
		case reflect.Bool:
			if !ok && field.Bool() {
				return api.ErrLegacy
			}
		}
		switch {
		case !ok && size != 0,
			ok && name == "Name" && handle.Check(n.Name) != api.OK,
			ok && name != "Name" && (size < s[0] || size > s[1]):
			return api.ErrLegacy
		}
	}
	for _, it := range n.Items {
		if !itemOk(it) {
			return api.ErrLegacy
		}
	}
	for _, c := range n.Codes {
		if c < 0 || c > twoBytes {
			return api.ErrLegacy
		}
	}
	if glyph.Check(n.Text) != api.OK || n.Kind == 8 && (n.Data == "") == (n.Code == 0) {
		return api.ErrLegacy
	}
	return api.OK
}

// snacOf is the bytes of a snac with these.
func snacOf(family, sub, flags int, req int64, body string) string {
	return be(int64(family), 2) + be(int64(sub), 2) + be(int64(flags), 2) + be(req, 4) + body
}

// putOf says Put by the words of P14.2.
func putOf(n api.Note, req int64) (int, string, api.Errno) {
	if checkOf(n) != api.OK {
		return 0, "", api.ErrLegacy
	}
	r, _ := rowOf(n.Kind)
	b := r.bytes.put(n)
	if r.channel != 2 {
		return r.channel, b, api.OK
	}
	if req < 0 || req > fourBytes || len(b) > 8182 {
		return 0, "", api.ErrLegacy
	}
	return 2, snacOf(r.family, r.sub, 0, req, b), api.OK
}

// parseOf says Parse by the words of P14.3: each row is asked whether the bytes are those of one of its notes.
func parseOf(channel int, data string) (api.Note, api.Errno) {
	for _, r := range rows {
		if r.channel != channel {
			continue
		}
		b := data
		if channel == 2 {
			if len(data) < 10 || len(data) > 8192 || data[:4] != be(int64(r.family), 2)+be(int64(r.sub), 2) {
				continue
			}
			b = data[10:]
		}
		n := api.Note{Kind: r.kind}
		rest, ok := r.bytes.get(&n, b)
		if ok && rest == "" && checkOf(n) == api.OK && r.bytes.put(n) == b {
			return n, api.OK
		}
	}
	return api.Note{}, api.ErrLegacy
}

// numbers are ends of numbers of all widths, and those around them.
func numbers() []int64 {
	l := []int64{math.MinInt64, math.MinInt64 + 1, math.MaxInt64, math.MaxInt64 - 1, 14, 1000}
	for bit := range 63 {
		for off := int64(-2); off <= 2; off++ {
			l = append(l, 1<<bit+off, -1<<bit+off)
		}
	}
	return l
}

// texts are of lengths around those that matter, and with signs that are not plain.
func texts() []string {
	l := []string{"\x00", "a\x00", "\t\n\r", "\x1f", "\x7f", "\xff", "\xc3", "\xc3\xa9", "\xed\xa0\x80", "\ufffe", "\uffff", "\ufffd", "\U0010ffff", "\xf4\x90\x80\x80", "a\xff", strings.Repeat("x", 63) + "\xff", strings.Repeat("\u00e9", 32), strings.Repeat("\u20ac", 22), strings.Repeat("x", 63) + "\x00"}
	for _, n := range []int{0, 1, 2, 3, 7, 8, 9, 15, 16, 17, 18, 63, 64, 65, 66, 127, 128, 255, 256, 257, 258, 320, 1000, 1999, 2000, 2001, 2002, 2256, 4096, 8182, 65535, 65536, 65536 + 8, 65536 + 16, 65536 + 64, 1 << 17} {
		l = append(l, strings.Repeat("x", n))
	}
	for _, n := range []int{1999, 2000} {
		l = append(l, strings.Repeat("x", n-2)+"\u00e9", strings.Repeat("x", n-1)+"\u00e9", strings.Repeat("x", n-1)+"\x00", strings.Repeat("x", n-1)+"\xff")
	}
	return l
}

// names may be, or are like those that may.
func names() []string {
	return []string{"joe", "Joe", "J o e", "Joe@Mac.com", "12345", "123456789", "a23456789012345 ", "a234567890123456", "a2345678901234567", "", " ", "jo", "j o", "joe ", " joe", "joe@", "j@@e", "1234", "1234567890", "012345", "1joe", "jo\u00e9", "joe\x00", "joe\n", "joe\xff"}
}

func randomText(r *rand.Rand, n int) string {
	b := make([]byte, n)
	r.Read(b)
	return string(b)
}

// randomPlain is of n bytes of plain signs.
func randomPlain(r *rand.Rand, n int) string {
	var b strings.Builder
	for b.Len() < n {
		s := []string{"a", "Z", " ", "\t", "\n", "&", "\u00e9", "\u20ac", "\U0001f600"}[r.Intn(9)]
		if b.Len()+len(s) <= n {
			b.WriteString(s)
		}
	}
	return b.String()
}

func randomName(r *rand.Rand) string {
	for {
		if s := names()[r.Intn(8)]; handle.Check(s) == api.OK {
			return s
		}
	}
}

func randomItem(r *rand.Rand) api.Item {
	it := api.Item{Group: r.Intn(1 << r.Intn(17)), Id: r.Intn(1 << r.Intn(17)), Type: r.Intn(2)}
	if it.Type == 1 {
		it.Name = randomPlain(r, r.Intn(65))
		return it
	}
	it.Name = randomName(r)
	it.Await = r.Intn(2) == 0
	if r.Intn(2) == 0 {
		it.Alias = randomPlain(r, r.Intn(65))
	}
	return it
}

// randomNote is one of that kind that may be; its bytes may be too many for a snac.
func randomNote(r *rand.Rand, kind int) api.Note {
	w, _ := rowOf(kind)
	n := api.Note{Kind: kind}
	for name, s := range w.fields {
		amount := s[0]
		switch r.Intn(4) {
		case 0:
			amount = s[1]
		case 1, 2:
			amount += r.Int63n(min(s[1]-s[0], 1<<r.Intn(33)) + 1)
		}
		switch name {
		case "Name":
			n.Name = randomName(r)
		case "Text":
			n.Text = randomPlain(r, int(amount))
		case "Data":
			n.Data = randomText(r, int(amount))
		case "Ok":
			n.Ok = r.Intn(2) == 0
		case "Items":
			for range amount {
				n.Items = append(n.Items, randomItem(r))
			}
		case "Codes":
			for range amount {
				n.Codes = append(n.Codes, r.Intn(1<<r.Intn(17)))
			}
		default:
			at(&n, name).SetInt(amount)
		}
	}
	if kind == 8 && n.Data != "" {
		n.Code = 0
	} else if kind == 8 && n.Code == 0 {
		n.Code = 5
	}
	return n
}
