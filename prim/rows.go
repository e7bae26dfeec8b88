package prim

import (
	"hearth/api"
	"hearth/fix"
)

// rows is what each instruction is.
func rows() map[int]row {
	return map[int]row{
		api.OpCons:       {of(anything, anything), room(api.KindPair), build(api.KindPair)},
		api.OpCar:        {of(api.KindPair), nil, get(1)},
		api.OpCdr:        {of(api.KindPair), nil, get(2)},
		api.OpSetCar:     {of(api.KindPair, anything), nil, set(1)},
		api.OpSetCdr:     {of(api.KindPair, anything), nil, set(2)},
		api.OpBox:        {of(anything), room(api.KindBox), build(api.KindBox)},
		api.OpUnbox:      {of(api.KindBox), nil, get(1)},
		api.OpSetBox:     {of(api.KindBox, anything), nil, set(1)},
		api.OpVector:     {of(fixnum, anything), vectorRoom, vector},
		api.OpVectorRef:  {of(api.KindVector, fixnum), nil, element(get)},
		api.OpVectorSet:  {of(api.KindVector, fixnum, anything), nil, element(set)},
		api.OpVectorLen:  {of(api.KindVector), nil, vectorLen},
		api.OpTextLen:    {of(api.KindText), nil, textLen},
		api.OpTextRef:    {of(api.KindText, fixnum), nil, textRef},
		api.OpTextEq:     {of(api.KindText, api.KindText), nil, textEq},
		api.OpEq:         {of(anything, anything), nil, same},
		api.OpKind:       {of(anything), nil, kind},
		api.OpNot:        {of(anything), nil, not},
		api.OpAdd:        {of(fixnum, fixnum), nil, sum(fix.Add)},
		api.OpSub:        {of(fixnum, fixnum), nil, sum(fix.Sub)},
		api.OpMul:        {of(fixnum, fixnum), nil, sum(fix.Mul)},
		api.OpQuot:       {of(fixnum, fixnum), nil, division(fix.Quot)},
		api.OpRem:        {of(fixnum, fixnum), nil, division(fix.Rem)},
		api.OpLess:       {of(fixnum, fixnum), nil, less},
		api.OpFloAdd:     {of(api.KindFlo, api.KindFlo), floRoom, floSum(fix.FloAdd)},
		api.OpFloSub:     {of(api.KindFlo, api.KindFlo), floRoom, floSum(fix.FloSub)},
		api.OpFloMul:     {of(api.KindFlo, api.KindFlo), floRoom, floSum(fix.FloMul)},
		api.OpFloDiv:     {of(api.KindFlo, api.KindFlo), floRoom, floSum(fix.FloDiv)},
		api.OpFloLess:    {of(api.KindFlo, api.KindFlo), nil, floLess},
		api.OpToFlo:      {of(fixnum), room(api.KindFlo), toFlo},
		api.OpToFix:      {of(api.KindFlo), nil, toFix},
		api.OpCharFix:    {of(char), nil, charFix},
		api.OpFixChar:    {of(fixnum), nil, fixChar},
		api.OpWeakCons:   {of(anything, anything), room(api.KindWeak), build(api.KindWeak)},
		api.OpWeakCar:    {of(api.KindWeak), nil, get(1)},
		api.OpWeakCdr:    {of(api.KindWeak), nil, get(2)},
		api.OpSetWeakCdr: {of(api.KindWeak, anything), nil, set(2)},
		api.OpEph:        {of(anything, anything), room(api.KindEph), build(api.KindEph)},
		api.OpEphKey:     {of(api.KindEph), nil, get(1)},
		api.OpEphVal:     {of(api.KindEph), nil, get(2)},
		api.OpTable:      {of(), room(api.KindTable), newTable},
		api.OpTableGet:   {of(api.KindTable, anything, anything), nil, tableGet},
		api.OpTablePut:   {of(api.KindTable, anything, anything), putRoom, tablePut},
		api.OpTableDel:   {of(api.KindTable, anything), nil, tableDelete},
		api.OpTableCount: {of(api.KindTable), nil, tableCount},
	}
}

// of is the types of an instruction's operands.
func of(types ...int) []int { return types }
