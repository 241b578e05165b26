package value

import (
	"strconv"
	"strings"

	"tribunal/api"
	"tribunal/bits"
	"tribunal/sort"
	"tribunal/whole"
)

// page is a text in the making. Once it is too long, nothing is added any more, so that it ends soon.
type page struct {
	text []byte
}

func text(n *node) (string, api.Errno) {
	p := &page{}
	p.value(&n.Value)
	if p.full() {
		return "", api.ErrLong
	}
	return string(p.text), api.OK
}

func (p *page) full() bool { return len(p.text) > api.MaxText }

func (p *page) add(texts ...string) {
	for _, s := range texts {
		p.text = append(p.text, s...)
	}
}

// value adds a value in normal form.
func (p *page) value(v *api.Value) {
	if p.full() {
		return
	}
	switch x := kindOf(v).(type) {
	case truth:
		p.text = strconv.AppendBool(p.text, x.Bool)
	case number:
		p.number(x)
	case vector:
		digits, _ := bits.Text(x.Bits, 2)
		p.add(digits)
	case tree:
		p.tree(x)
	case array:
		p.array(x)
	case element:
		p.add("(as @", strconv.Itoa(x.Index), " ", sort.Quote(x.Name), ")")
	}
}

func (p *page) number(x number) {
	digits, _ := whole.Print(whole.Abs(x.Int))
	if x.Int.Neg {
		p.add("(- ", digits, ")")
	} else {
		p.add(digits)
	}
}

func (p *page) tree(x tree) {
	name := sort.Quote(x.Name)
	if len(x.Args) == 0 {
		p.add(name)
		return
	}
	p.add("(", name)
	for i := range x.Args {
		p.add(" ")
		p.value(&x.Args[i])
	}
	p.add(")")
}

func (p *page) array(x array) {
	of, _ := sort.Text(x.Sort)
	p.add(strings.Repeat("(store ", len(x.Rows)), "((as const ", of, ") ")
	p.value(&x.Else[0])
	p.add(")")
	for i := range x.Rows {
		p.add(" ")
		p.value(&x.Rows[i].Key)
		p.add(" ")
		p.value(&x.Rows[i].Val)
		p.add(")")
	}
}
